// Package word is layer 1: see shared/doc/01-word.md.
package word

import (
	"carillon/api"
)

const (
	wordBytes = 4
	longBytes = 8
)

// Small letters only: a text has one way of being written, so that Hex undoes Unhex, too.
var digits = [16]byte{'0', '1', '2', '3', '4', '5', '6', '7', '8', '9', 'a', 'b', 'c', 'd', 'e', 'f'}

// Turn tells x turned to the right by n bits, to the left if n is negative.
func Turn(x uint32, n int) uint32 {
	// The low five bits are the rest by 32 that is not negative, of negative numbers, too.
	k := uint(n) & 31
	return x>>k | x<<(32-k)
}

// Load tells the word of b at a place.
func Load(b []byte, at int) (uint32, api.Errno) {
	return load[uint32](b, at, wordBytes)
}

// Long tells the long word of b at a place.
func Long(b []byte, at int) (uint64, api.Errno) {
	return load[uint64](b, at, longBytes)
}

func load[T uint32 | uint64](b []byte, at int, size int) (T, api.Errno) {
	// Not at+size > len(b): that sum would wrap round at the greatest places.
	if at < 0 || at > len(b)-size {
		return 0, api.ErrArg
	}
	var x T
	for _, c := range b[at : at+size] {
		x = x<<8 | T(c)
	}
	return x, api.OK
}

// Put tells b and the words behind it.
func Put(b []byte, l ...uint32) []byte {
	// Appending to b itself could write into memory behind it that is the caller's.
	out := make([]byte, 0, len(b)+wordBytes*len(l))
	out = append(out, b...)
	for _, x := range l {
		out = append(out, byte(x>>24), byte(x>>16), byte(x>>8), byte(x))
	}
	return out
}

// PutLong tells b and the long word behind it.
func PutLong(b []byte, n uint64) []byte {
	return Put(b, uint32(n>>32), uint32(n))
}

// Xor tells in which bits a and b differ.
func Xor(a []byte, b []byte) ([]byte, api.Errno) {
	if len(a) != len(b) {
		return nil, api.ErrArg
	}
	out := make([]byte, len(a))
	for i, c := range a {
		out[i] = c ^ b[i]
	}
	return out, api.OK
}

// Same tells whether a and b hold the same bytes; how long it takes hangs on their lengths alone, which are no secret.
func Same(a []byte, b []byte) bool {
	return len(a) == len(b) && gather(a, b) == 0
}

// gather tells all bits in which two lists of one length differ anywhere. It has no branch on what they hold: a tag that is guessed byte by byte must not be told by the time that a refusal takes.
func gather[T uint8 | uint32 | uint64](a []T, b []T) T {
	var differ T
	for i, x := range a {
		differ |= x ^ b[i]
	}
	return differ
}

// Hex tells b as digits.
func Hex(b []byte) string {
	out := make([]byte, 0, 2*len(b))
	for _, c := range b {
		out = append(out, digits[c>>4], digits[c&15])
	}
	return string(out)
}

// Unhex tells the bytes of digits, and how far they were read.
func Unhex(s string) ([]byte, int, api.Errno) {
	// A last digit that is alone has room, too: whether it is one is asked ahead of the missing one.
	out := make([]byte, (len(s)+1)/2)
	for i := range len(s) {
		n, ok := value(s[i])
		if !ok {
			return nil, i, api.ErrForm
		}
		out[i/2] = out[i/2]<<4 | n
	}
	if len(s)%2 != 0 {
		return nil, len(s), api.ErrForm
	}
	return out, len(s), api.OK
}

// value tells what a digit stands for, and whether it is one.
func value(digit byte) (byte, bool) {
	for i, d := range digits {
		if d == digit {
			return byte(i), true
		}
	}
	return 0, false
}
