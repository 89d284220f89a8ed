package word

import (
	"bytes"
	"math"
	"slices"
	"strings"
	"testing"

	"carillon/api"
)

// ramp is n bytes, each of its own up to 256 of them.
func ramp(n int) []byte {
	b := make([]byte, n)
	for i := range b {
		b[i] = byte(i*7 + 3)
	}
	return b
}

// P1.1: Turn.
func TestTurn(t *testing.T) {
	for _, c := range []struct {
		x    uint32
		n    int
		want uint32
	}{
		{1, 1, 0x80000000},
		{1, 0, 1},
		{0x12345678, 8, 0x78123456},
		{0x12345678, 31, 0x2468acf0},
		{0x12345678, 32, 0x12345678},
		{0x12345678, 33, 0x091a2b3c},
		{0x12345678, 40, 0x78123456},
		{0x12345678, 8 + 32*1000, 0x78123456},
		{1, -1, 2},
		{0x12345678, -8, 0x34567812},
		{0x12345678, -32, 0x12345678},
		{0x12345678, -33, 0x2468acf0},
		{0x12345678, math.MinInt, 0x12345678},
		{0x12345678, math.MinInt + 8, 0x78123456},
		{0x12345678, math.MaxInt, 0x2468acf0},
		{math.MaxUint32, 5, math.MaxUint32},
		{0, 5, 0},
	} {
		if got := Turn(c.x, c.n); got != c.want {
			t.Errorf("Turn(%x, %d) = %x, want %x", c.x, c.n, got, c.want)
		}
	}
}

// P1.1: Turn, bit by bit: bit i goes to i - n, counted round in 32.
func TestTurnEachBit(t *testing.T) {
	for n := -100; n <= 100; n++ {
		for i := range 32 {
			to := ((i-n)%32 + 32) % 32
			if got := Turn(1<<i, n); got != 1<<to {
				t.Errorf("Turn(1<<%d, %d) = %x, want %x", i, n, got, uint32(1)<<to)
			}
		}
	}
}

// P1.1: Load and Long at every place that there is, against the sum of bytes.
func TestLoadEachPlace(t *testing.T) {
	b := []byte{0xff, 0x80, 0x01, 0x00, 0x7f, 0xfe, 0x12, 0x34, 0x56, 0x78, 0x9a, 0xbc}
	for at := 0; at+4 <= len(b); at++ {
		want := uint32(b[at])<<24 + uint32(b[at+1])<<16 + uint32(b[at+2])<<8 + uint32(b[at+3])
		if got, e := Load(b, at); got != want || e != api.OK {
			t.Errorf("Load(b, %d) = %x, %v, want %x", at, got, e, want)
		}
	}
	for at := 0; at+8 <= len(b); at++ {
		want := uint64(0)
		for i := range 8 {
			want = want*256 + uint64(b[at+i])
		}
		if got, e := Long(b, at); got != want || e != api.OK {
			t.Errorf("Long(b, %d) = %x, %v, want %x", at, got, e, want)
		}
	}
	if got, _ := Load([]byte{1, 2, 3, 4}, 0); got != 0x01020304 {
		t.Errorf("Load = %x: the highest byte comes first", got)
	}
	if got, _ := Long([]byte{1, 2, 3, 4, 5, 6, 7, 8}, 0); got != 0x0102030405060708 {
		t.Errorf("Long = %x: the highest byte comes first", got)
	}
}

// P1.1, P2, P6: places that are not there are ErrArg, with a zero word beside it.
func TestLoadRefuses(t *testing.T) {
	places := []int{-1, -2, -4, -8, math.MinInt, math.MinInt + 4, math.MaxInt, math.MaxInt - 3, math.MaxInt - 7, 1 << 32, 1 << 62}
	for n := range 20 {
		// Memory behind the end is there, but it is no part of the list.
		b := slices.Repeat([]byte{0xee}, 40)[:n]
		for _, at := range places {
			refuseLoad(t, b, at)
			refuseLong(t, b, at)
		}
		for at := max(n-3, 0); at <= n+1; at++ {
			refuseLoad(t, b, at)
		}
		for at := max(n-7, 0); at <= n+1; at++ {
			refuseLong(t, b, at)
		}
	}
	refuseLoad(t, nil, 0)
	refuseLong(t, nil, 0)
}

func refuseLoad(t *testing.T, b []byte, at int) {
	t.Helper()
	if x, e := Load(b, at); x != 0 || e != api.ErrArg {
		t.Errorf("Load of %d bytes at %d = %x, %v", len(b), at, x, e)
	}
}

func refuseLong(t *testing.T, b []byte, at int) {
	t.Helper()
	if x, e := Long(b, at); x != 0 || e != api.ErrArg {
		t.Errorf("Long of %d bytes at %d = %x, %v", len(b), at, x, e)
	}
}

// P1.1: Put and PutLong.
func TestPut(t *testing.T) {
	for _, c := range []struct {
		b    []byte
		l    []uint32
		want string
	}{
		{nil, nil, ""},
		{[]byte{}, []uint32{}, ""},
		{[]byte{9}, nil, "\x09"},
		{nil, []uint32{0x01020304}, "\x01\x02\x03\x04"},
		{[]byte{9, 8}, []uint32{0xfffefdfc, 0, 1}, "\x09\x08\xff\xfe\xfd\xfc\x00\x00\x00\x00\x00\x00\x00\x01"},
	} {
		if got := Put(c.b, c.l...); string(got) != c.want {
			t.Errorf("Put(%x, %x) = %x, want %x", c.b, c.l, got, c.want)
		}
	}
	if got := Put([]byte{9}); string(got) != "\x09" {
		t.Errorf("Put of no words = %x", got)
	}
	if got := PutLong([]byte{9}, 0x0102030405060708); string(got) != "\x09\x01\x02\x03\x04\x05\x06\x07\x08" {
		t.Errorf("PutLong = %x", got)
	}
	if got := PutLong(nil, math.MaxUint64-1); string(got) != "\xff\xff\xff\xff\xff\xff\xff\xfe" {
		t.Errorf("PutLong = %x", got)
	}
	if got := PutLong([]byte{}, 0); string(got) != "\x00\x00\x00\x00\x00\x00\x00\x00" {
		t.Errorf("PutLong = %x", got)
	}
}

// P4: the memory behind a list that is handed in stays as it is, and the answer shares none with it.
func TestPutIsNewMemory(t *testing.T) {
	calls := map[string]func([]byte) []byte{
		"Put of none": func(b []byte) []byte { return Put(b) },
		"Put of one":  func(b []byte) []byte { return Put(b, 0x01020304) },
		"Put of two":  func(b []byte) []byte { return Put(b, 0x01020304, 5) },
		"PutLong":     func(b []byte) []byte { return PutLong(b, 0x0102030405060708) },
	}
	for name, call := range calls {
		whole := ramp(32)
		got := call(whole[:3])
		if !bytes.Equal(whole, ramp(32)) {
			t.Errorf("%s: what was handed in is now %x", name, whole)
		}
		clear(got)
		if !bytes.Equal(whole, ramp(32)) {
			t.Errorf("%s: the answer is the caller's memory", name)
		}
		again := call(whole[:3])
		clear(whole)
		if !bytes.Equal(again[:3], ramp(3)) {
			t.Errorf("%s: the answer hangs on what was handed in", name)
		}
	}
	l := []uint32{1, 2, 3}
	Put(nil, l...)
	if !slices.Equal(l, []uint32{1, 2, 3}) {
		t.Errorf("Put: the words that were handed in are now %x", l)
	}
}

// P1.2: Xor, of each pair of bytes.
func TestXor(t *testing.T) {
	for x := range 256 {
		a, b, want := make([]byte, 256), make([]byte, 256), make([]byte, 256)
		for y := range 256 {
			a[y], b[y] = byte(x), byte(y)
			want[y] = byte((x | y) - (x & y))
		}
		if got, e := Xor(a, b); !bytes.Equal(got, want) || e != api.OK {
			t.Fatalf("Xor of %d with all bytes = %x, %v", x, got, e)
		}
	}
	for _, a := range [][]byte{nil, {}} {
		for _, b := range [][]byte{nil, {}} {
			if got, e := Xor(a, b); len(got) != 0 || e != api.OK {
				t.Errorf("Xor of no bytes = %x, %v", got, e)
			}
		}
	}
}

// P1.2, P2: lists of different lengths, however near, are ErrArg, and nothing beside it.
func TestXorRefuses(t *testing.T) {
	for n := range 10 {
		for m := range 10 {
			got, e := Xor(ramp(n), ramp(m))
			if n != m && (len(got) != 0 || e != api.ErrArg) {
				t.Errorf("Xor of %d and %d bytes = %x, %v", n, m, got, e)
			}
		}
	}
	if got, e := Xor(nil, []byte{0}); len(got) != 0 || e != api.ErrArg {
		t.Errorf("Xor of none and one = %x, %v", got, e)
	}
}

// P4: Xor changes neither list, even if they are one, and answers new memory.
func TestXorIsNewMemory(t *testing.T) {
	a, b := ramp(8), ramp(16)[8:]
	got, _ := Xor(a, b)
	clear(got)
	if !bytes.Equal(a, ramp(8)) || !bytes.Equal(b, ramp(16)[8:]) {
		t.Errorf("Xor: what was handed in is now %x, %x", a, b)
	}
	if got, e := Xor(a, a); !bytes.Equal(got, make([]byte, 8)) || e != api.OK || !bytes.Equal(a, ramp(8)) {
		t.Errorf("Xor of a list with itself = %x, %v; it is now %x", got, e, a)
	}
}

// P1.2: Same finds one bit that differs, in any byte.
func TestSame(t *testing.T) {
	for n := range 40 {
		a := ramp(n)
		if !Same(a, a) || !Same(a, ramp(n)) {
			t.Errorf("Same of %d same bytes: false", n)
		}
		for i := range 8 * n {
			b := ramp(n)
			b[i/8] ^= 1 << (i % 8)
			if Same(a, b) || Same(b, a) {
				t.Errorf("Same of %d bytes, bit %d turned: true", n, i)
			}
		}
	}
	if Same([]byte{1, 1}, []byte{0, 0}) || Same([]byte{1, 2}, []byte{2, 1}) || Same([]byte{0x80, 0x80}, []byte{0, 0}) {
		t.Error("Same: differences must not undo each other")
	}
}

// P1.2, P3: Same of nil, of empty lists, of lists of which one begins the other.
func TestSameLengths(t *testing.T) {
	if !Same(nil, nil) || !Same(nil, []byte{}) || !Same([]byte{}, nil) || !Same([]byte{}, []byte{}) {
		t.Error("Same of no bytes: false")
	}
	for n := range 10 {
		for m := range 10 {
			if got := Same(ramp(n), ramp(m)); got != (n == m) {
				t.Errorf("Same of %d and %d bytes: %v", n, m, got)
			}
			if got := Same(make([]byte, n), make([]byte, m)); got != (n == m) {
				t.Errorf("Same of %d and %d noughts: %v", n, m, got)
			}
		}
	}
}

// P1.2: all bytes are looked at: each difference is in what is gathered, those behind the first, too.
func TestGatherLooksAtAll(t *testing.T) {
	if got := gather([]byte{1, 2, 4, 8, 16, 32, 64, 128}, make([]byte, 8)); got != 255 {
		t.Errorf("gather = %x, want ff", got)
	}
	if got := gather([]byte{255, 3, 0x44}, []byte{254, 1, 4}); got != 0x43 {
		t.Errorf("gather = %x, want 43", got)
	}
	if got := gather([]uint32{1 << 31, 5}, []uint32{0, 4}); got != 1<<31|1 {
		t.Errorf("gather of words = %x", got)
	}
	if got := gather([]uint64{1 << 63, 5}, []uint64{0, 5}); got != 1<<63 {
		t.Errorf("gather of long words = %x", got)
	}
}

// P1.3: Hex.
func TestHex(t *testing.T) {
	for want, b := range map[string][]byte{
		"":                 nil,
		"0aff":             {0x0a, 0xff},
		"00":               {0},
		"0123456789abcdef": {0x01, 0x23, 0x45, 0x67, 0x89, 0xab, 0xcd, 0xef},
		"f00f":             {0xf0, 0x0f},
	} {
		if got := Hex(b); got != want {
			t.Errorf("Hex(%x) = %q", want, got)
		}
	}
	if got := Hex([]byte{}); got != "" {
		t.Errorf("Hex of no bytes = %q", got)
	}
	b := ramp(300)
	Hex(b)
	if !bytes.Equal(b, ramp(300)) {
		t.Error("Hex: what was handed in has changed")
	}
}

// P1.3: Unhex.
func TestUnhex(t *testing.T) {
	for s, want := range map[string][]byte{
		"":                 nil,
		"0aff":             {0x0a, 0xff},
		"00":               {0},
		"0123456789abcdef": {0x01, 0x23, 0x45, 0x67, 0x89, 0xab, 0xcd, 0xef},
		"f00f":             {0xf0, 0x0f},
	} {
		if got, at, e := Unhex(s); !bytes.Equal(got, want) || at != len(s) || e != api.OK {
			t.Errorf("Unhex(%q) = %x, %d, %v", s, got, at, e)
		}
	}
}

// P1.3: a byte that is no digit is told by its place, whichever of the 256 it is and wherever it stands, ahead of a missing digit.
func TestUnhexNoDigit(t *testing.T) {
	for c := range 256 {
		digit := c >= '0' && c <= '9' || c >= 'a' && c <= 'f'
		for n := range 6 {
			for at := range n + 1 {
				s := strings.Repeat("7", at) + string([]byte{byte(c)}) + strings.Repeat("7", n-at)
				got, place, e := Unhex(s)
				if !digit && (len(got) != 0 || place != at || e != api.ErrForm) {
					t.Errorf("Unhex(%q) = %x, %d, %v, want place %d", s, got, place, e, at)
				}
				if digit && len(s)%2 == 0 && (len(got) != len(s)/2 || place != len(s) || e != api.OK) {
					t.Errorf("Unhex(%q) = %x, %d, %v", s, got, place, e)
				}
			}
		}
	}
	for s, at := range map[string]int{"gg": 0, "0g": 1, "0g0g": 1, "00A0": 2, "0F": 1, "0x00": 1, "00 ": 2, " 00": 0, "00\n": 2, "0é": 1, "00\x00\x00": 2, "\xff": 0, "１0": 0} {
		if got, place, e := Unhex(s); len(got) != 0 || place != at || e != api.ErrForm {
			t.Errorf("Unhex(%q) = %x, %d, %v, want place %d", s, got, place, e, at)
		}
	}
}

// P1.3: an odd number of digits: the missing one's place is the end.
func TestUnhexOdd(t *testing.T) {
	for n := 1; n < 40; n += 2 {
		s := strings.Repeat("a", n)
		if got, at, e := Unhex(s); len(got) != 0 || at != n || e != api.ErrForm {
			t.Errorf("Unhex of %d digits = %x, %d, %v", n, got, at, e)
		}
	}
}

// P1.4: Load undoes Put, Long PutLong, wherever the words stand.
func TestLoadUndoesPut(t *testing.T) {
	words := []uint32{0, 1, 0xff, 0x100, 0x01020304, 0x7fffffff, 0x80000000, 0xfffffffe, math.MaxUint32}
	for n := range 9 {
		b := Put(ramp(n), words...)
		if !bytes.Equal(b[:n], ramp(n)) || len(b) != n+4*len(words) {
			t.Fatalf("Put behind %d bytes = %x", n, b)
		}
		for i, x := range words {
			if got, e := Load(b, n+4*i); got != x || e != api.OK {
				t.Errorf("Load of Put of %x = %x, %v", x, got, e)
			}
		}
		for i := range 64 {
			for _, x := range []uint64{1 << i, 1<<i - 1, ^uint64(1 << i)} {
				b := PutLong(ramp(n), x)
				if got, e := Long(b, n); got != x || e != api.OK || len(b) != n+8 {
					t.Errorf("Long of PutLong of %x = %x, %v", x, got, e)
				}
			}
		}
	}
}

// P1.4: Unhex undoes Hex, and Hex Unhex.
func TestUnhexUndoesHex(t *testing.T) {
	for n := range 300 {
		b := ramp(n)
		s := Hex(b)
		if len(s) != 2*n {
			t.Errorf("Hex of %d bytes has %d digits", n, len(s))
		}
		got, at, e := Unhex(s)
		if !bytes.Equal(got, b) || at != 2*n || e != api.OK {
			t.Errorf("Unhex of Hex of %x = %x, %d, %v", b, got, at, e)
		}
		if Hex(got) != s {
			t.Errorf("Hex of Unhex of %q = %q", s, Hex(got))
		}
	}
}

// P1.4: Xor undoes itself.
func TestXorUndoesItself(t *testing.T) {
	for n := range 300 {
		a, b := ramp(n), ramp(2 * n)[n:]
		once, e := Xor(a, b)
		if e != api.OK {
			t.Fatalf("Xor of %d bytes: %v", n, e)
		}
		if twice, e := Xor(once, b); !bytes.Equal(twice, a) || e != api.OK {
			t.Errorf("Xor of Xor = %x, %v, want %x", twice, e, a)
		}
		if n > 0 && n%256 != 0 && Same(once, make([]byte, n)) {
			t.Errorf("Xor of different lists of %d bytes is nought", n)
		}
	}
}
