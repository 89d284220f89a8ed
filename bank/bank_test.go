package bank

import (
	"bytes"
	"encoding/hex"
	"math"
	"slices"
	"testing"

	"carillon/api"
	"carillon/flash"
)

// text is n bytes without a short period, none of them the same as in text of another first at the same place.
func text(n int, first byte) []byte {
	b := make([]byte, n)
	for i := range b {
		b[i] = byte(i*i>>3^i*11^i>>8) + first
	}
	return b
}

// unhex is bytes by their digits.
func unhex(t testing.TB, s string) []byte {
	t.Helper()
	b, err := hex.DecodeString(s)
	if err != nil {
		t.Fatal(err)
	}
	return b
}

// sum is what stands behind a bank's bytes, by dividing them with 24 noughts behind them, bit for bit.
func sum(b []byte) []byte {
	rest := append(slices.Clone(b), 0, 0, 0)
	for i, c := range []byte{0xFE, 0xDC, 0xBA} {
		rest[i] ^= c
	}
	for at := range 8 * len(b) {
		if rest[at/8]>>(7-at%8)&1 == 0 {
			continue
		}
		for i := range 25 {
			bit := byte(uint32(0x15D6DCB)>>(24-i)) & 1
			rest[(at+i)/8] ^= bit << (7 - (at+i)%8)
		}
	}
	return rest[len(b):]
}

// image is a bank's bytes: whole ones, where the sign and the number are those of one.
func image(sign byte, number uint32, data []byte) []byte {
	body := append([]byte{byte(number >> 24), byte(number >> 16), byte(number >> 8), byte(number)}, data...)
	return slices.Concat([]byte{sign}, body, sum(body))
}

// blanks is n bytes as a new flash has them.
func blanks(n int) []byte {
	return bytes.Repeat([]byte{0xFF}, n)
}

// floor makes a flash with these bytes.
func floor(t testing.TB, all []byte) *flash.Flash {
	t.Helper()
	f, e := flash.New(len(all))
	if e != api.OK {
		t.Fatalf("a flash of %d bytes: %v", len(all), e)
	}
	if e := f.Write(0, all); e != api.OK {
		t.Fatalf("a flash of %d bytes can't be written to: %v", len(all), e)
	}
	return f
}

// all is a flash's bytes, of a dead one too.
func all(t testing.TB, f *flash.Flash) []byte {
	t.Helper()
	f = f.Copy()
	f.Wake()
	b, e := f.Read(0, f.Len())
	if e != api.OK {
		t.Fatalf("the flash can't be read: %v", e)
	}
	return b
}

// made checks New where it is no error; it writes nothing.
func made(t testing.TB, f *flash.Flash, at int, n int) *Bank {
	t.Helper()
	was, begun := all(t, f), f.Writes()
	b, e := New(f, at, n)
	if b == nil || e != api.OK {
		t.Fatalf("New(flash of %d, %d, %d) makes %v, %v", f.Len(), at, n, b != nil, e)
	}
	if b.Size() != n {
		t.Fatalf("Size = %d, want %d", b.Size(), n)
	}
	if !bytes.Equal(all(t, f), was) || f.Writes() != begun {
		t.Fatal("New writes to the flash")
	}
	return b
}

// laid makes a bank upon a flash that has just these two banks' bytes.
func laid(t testing.TB, first []byte, second []byte) (*flash.Flash, *Bank) {
	t.Helper()
	if len(first) != len(second) {
		t.Fatalf("banks of %d and %d bytes", len(first), len(second))
	}
	f := floor(t, slices.Concat(first, second))
	return f, made(t, f, 0, len(first)-8)
}

// saves checks Save where it is no error: it begins three Writes.
func saves(t testing.TB, f *flash.Flash, b *Bank, data []byte) {
	t.Helper()
	begun := f.Writes()
	if e := b.Save(data); e != api.OK {
		t.Fatalf("Save(%x) = %v", data, e)
	}
	if f.Writes() != begun+3 {
		t.Fatalf("Save begins %d Writes, want 3", f.Writes()-begun)
	}
	loads(t, b, data)
}

// refuses checks Save where it is an error ahead of any Write.
func refuses(t testing.TB, f *flash.Flash, b *Bank, data []byte, want api.Errno) {
	t.Helper()
	was, begun := all(t, f), f.Writes()
	if e := b.Save(data); e != want {
		t.Fatalf("Save(%d bytes) = %v, want %v", len(data), e, want)
	}
	if !bytes.Equal(all(t, f), was) || f.Writes() != begun {
		t.Fatalf("a Save that is refused (%v) writes", want)
	}
}

// loads checks Load where it is no error.
func loads(t testing.TB, b *Bank, want []byte) {
	t.Helper()
	for range 2 {
		if got, e := b.Load(); !bytes.Equal(got, want) || e != api.OK {
			t.Fatalf("Load = %x, %v, want %x", got, e, want)
		}
	}
}

// fails checks Load where it is an error; there is no number then.
func fails(t testing.TB, b *Bank, want api.Errno) {
	t.Helper()
	for range 2 {
		if got, e := b.Load(); len(got) != 0 || e != want {
			t.Fatalf("Load = %x, %v, want %v", got, e, want)
		}
		if b.Number() != 0 {
			t.Fatalf("Number = %d, want 0", b.Number())
		}
	}
}

// tells checks all that a bank tells of a record that is there.
func tells(t testing.TB, b *Bank, number uint32, data []byte) {
	t.Helper()
	loads(t, b, data)
	if b.Number() != number || b.Fresh() || b.Size() != len(data) {
		t.Fatalf("number %d, fresh %v, size %d, want %d, false, %d", b.Number(), b.Fresh(), b.Size(), number, len(data))
	}
}

// holds checks that a flash has just these bytes.
func holds(t testing.TB, f *flash.Flash, want ...[]byte) {
	t.Helper()
	if got := all(t, f); !bytes.Equal(got, slices.Concat(want...)) {
		t.Fatalf("the flash has %x, want %x", got, slices.Concat(want...))
	}
}

// P12.2, P12.4, the chapter's example: Save a, Save b torn: a. (Torn behind the one byte of its last Write it is b: see TestTornSign.)
func TestExample(t *testing.T) {
	for k := range 3 {
		f := floor(t, blanks(18))
		b := made(t, f, 0, 1)
		saves(t, f, b, []byte("a"))
		f.Tear(k, 0)
		if e := b.Save([]byte("b")); e != 5 {
			t.Fatalf("Save = %d, want 5", e)
		}
		if f.Writes() != 1+3+k+1 {
			t.Fatalf("%d Writes, want %d", f.Writes(), 1+3+k+1)
		}
		f.Wake()
		tells(t, b, 1, []byte("a"))
	}
}

// P12.1, P12.2: the bytes of both banks, worked out apart from the program: the sign 5A, the number, the record, the sum.
func TestWrittenOut(t *testing.T) {
	f := floor(t, blanks(30))
	b := made(t, f, 2, 4)
	saves(t, f, b, []byte("one."))
	holds(t, f, blanks(2), unhex(t, "5a000000016f6e652e469162"), blanks(16))
	saves(t, f, b, []byte("two."))
	holds(t, f, blanks(2), unhex(t, "5a000000016f6e652e469162"), unhex(t, "5a0000000274776f2e34091f"), blanks(4))
	saves(t, f, b, []byte("bell"))
	holds(t, f, blanks(2), unhex(t, "5a0000000362656c6cff6158"), unhex(t, "5a0000000274776f2e34091f"), blanks(4))
	tells(t, b, 3, []byte("bell"))
}

// P12.1, P12.2: banks of no byte and of MaxRecord, worked out apart.
func TestWrittenOutEnds(t *testing.T) {
	f := floor(t, blanks(16))
	b := made(t, f, 0, 0)
	saves(t, f, b, nil)
	holds(t, f, unhex(t, "5a000000016cd5b9"), blanks(8))
	saves(t, f, b, []byte{})
	holds(t, f, unhex(t, "5a000000016cd5b95a000000028b63e4"))
	tells(t, b, 2, nil)

	f = floor(t, blanks(144))
	b = made(t, f, 0, 64)
	data := make([]byte, 64)
	for i := range data {
		data[i] = byte(i)
	}
	saves(t, f, b, data)
	holds(t, f, unhex(t, "5a00000001000102030405060708090a0b0c0d0e0f101112131415161718191a1b1c1d1e1f202122232425262728292a2b2c2d2e2f303132333435363738393a3b3c3d3e3f3f9630"), blanks(72))
	tells(t, b, 1, data)
}

// What the tests reckon with is itself held against what was worked out apart.
func TestImage(t *testing.T) {
	for want, got := range map[string][]byte{
		"5a000000016f6e652e469162": image(0x5A, 1, []byte("one.")),
		"5afffffffe6c617374be64df": image(0x5A, 0xFFFFFFFE, []byte("last")),
		"5afffffffd6c61737477e007": image(0x5A, 0xFFFFFFFD, []byte("last")),
		"5affffffff6e6f6e6574e6e4": image(0x5A, 0xFFFFFFFF, []byte("none")),
		"5affffffff3848f3":         image(0x5A, 0xFFFFFFFF, nil),
	} {
		if hex.EncodeToString(got) != want {
			t.Fatalf("%x, want %s", got, want)
		}
	}
}

// P12.2: saves one behind the other go to bank 0 and bank 1 in turn, and leave the other one as it is, with each size of a record.
func TestInTurn(t *testing.T) {
	for n := 0; n <= 64; n++ {
		f := floor(t, blanks(2*(n+8)))
		b := made(t, f, 0, n)
		both := [2][]byte{blanks(n + 8), blanks(n + 8)}
		for i := range uint32(7) {
			data := text(n, byte(i*37))
			saves(t, f, b, data)
			both[i%2] = image(0x5A, i+1, data)
			holds(t, f, both[0], both[1])
			tells(t, b, i+1, data)
		}
	}
}

// P12.2: a number goes on through all of its bytes.
func TestNumberGoesOn(t *testing.T) {
	for _, number := range []uint32{0, 1, 0xFE, 0xFF, 0x100, 0xFFFF, 0x10000, 0xFFFFFF, 0x1000000, 0x7FFFFFFF, 0x80000000, 0xFFFFFFFC, 0xFFFFFFFD} {
		for which := range 2 {
			both := [2][]byte{image(0, number, []byte("old")), image(0, number, []byte("old"))}
			both[which] = image(0x5A, number, []byte("new"))
			f, b := laid(t, both[0], both[1])
			tells(t, b, number, []byte("new"))
			saves(t, f, b, []byte("one"))
			both[1-which] = image(0x5A, number+1, []byte("one"))
			holds(t, f, both[0], both[1])
			tells(t, b, number+1, []byte("one"))
		}
	}
}

// P12.1: a new flash has no record in it, and is fresh.
func TestNothingThere(t *testing.T) {
	for n := 0; n <= 64; n++ {
		for _, c := range []byte{0xFF, 0, 1, 0xA5, 0x59, 0x5B, 0xDA, 0x4A, 0x7A} {
			f := floor(t, bytes.Repeat([]byte{c}, 2*(n+8)))
			b := made(t, f, 0, n)
			fails(t, b, api.ErrSum)
			if !b.Fresh() {
				t.Fatalf("%d bytes of %02x: not fresh", n, c)
			}
			data := text(n, 1)
			saves(t, f, b, data)
			holds(t, f, image(0x5A, 1, data), bytes.Repeat([]byte{c}, n+8))
			tells(t, b, 1, data)
		}
	}
}

// P12.1: bytes that are all the sign are no record, and are not fresh.
func TestAllSigns(t *testing.T) {
	f := floor(t, bytes.Repeat([]byte{0x5A}, 24))
	b := made(t, f, 0, 4)
	fails(t, b, api.ErrSum)
	if b.Fresh() {
		t.Fatal("fresh")
	}
}

// P12.1: a new bank upon a flash that has a record finds it, and goes on from it.
func TestFindsRecord(t *testing.T) {
	f := floor(t, blanks(40))
	for i := range uint32(9) {
		b := made(t, f, 3, 5)
		if i > 0 {
			tells(t, b, i, text(5, byte(i-1)))
		}
		saves(t, f, b, text(5, byte(i)))
		tells(t, made(t, f, 3, 5), i+1, text(5, byte(i)))
	}
	// A bank of another place, or of another size, has none of it.
	for _, c := range [][2]int{{2, 5}, {4, 5}, {14, 5}, {3, 4}, {3, 6}, {0, 12}, {3, 0}} {
		fails(t, made(t, f, c[0], c[1]), api.ErrSum)
	}
}

// P12.1, P5: nothing is kept: banks upon one place of one flash, and what is written to the flash by other hands, are seen at once.
func TestNothingKept(t *testing.T) {
	f := floor(t, blanks(26))
	a, b := made(t, f, 0, 5), made(t, f, 0, 5)
	for i := range uint32(6) {
		saves(t, f, a, text(5, byte(i)))
		tells(t, b, 2*i+1, text(5, byte(i)))
		saves(t, f, b, text(5, byte(i+100)))
		tells(t, a, 2*i+2, text(5, byte(i+100)))
	}
	f.Write(0, blanks(26))
	fails(t, a, api.ErrSum)
	if !a.Fresh() || !b.Fresh() {
		t.Fatal("not fresh")
	}
	f.Write(13, image(0x5A, 77, []byte("other")))
	tells(t, a, 77, []byte("other"))
	saves(t, f, a, []byte("again"))
	holds(t, f, image(0x5A, 78, []byte("again")), image(0x5A, 77, []byte("other")))
}

// P12.1: sizes of a record from 0 to MaxRecord can be, and no other.
func TestNewSizes(t *testing.T) {
	f := floor(t, blanks(api.MaxFlash))
	for n := range 65 {
		made(t, f, 0, n)
		made(t, f, 100, n)
	}
	made(t, f, 0, api.MaxRecord)
	for _, n := range []int{math.MinInt, math.MinInt + 8, math.MinInt32, -4096, -9, -8, -7, -1, 65, api.MaxRecord + 1, 100, 4096, math.MaxInt32, math.MaxInt / 2, math.MaxInt - 8, math.MaxInt} {
		for _, at := range []int{0, 1, 1000} {
			if b, e := New(f, at, n); b != nil || e != 1 {
				t.Fatalf("New(%d, %d) makes %v, %d, want 1", at, n, b != nil, e)
			}
		}
	}
}

// P12.1: two banks may end just at the flash's end, and not one byte beyond it.
func TestNewPlaces(t *testing.T) {
	for _, size := range []int{0, 1, 8, 15, 16, 17, 18, 143, 144, 145, 1000, 4095, 4096} {
		f := floor(t, blanks(size))
		for _, n := range []int{0, 1, 2, 7, 63, 64} {
			most := size - 2*(n+8)
			for at := most - 2; at <= most+20; at++ {
				if at >= 0 && at <= most {
					made(t, f, at, n)
					continue
				}
				if b, e := New(f, at, n); b != nil || e != 1 {
					t.Fatalf("New(flash of %d, %d, %d) makes %v, %d, want 1", size, at, n, b != nil, e)
				}
			}
		}
	}
}

// P12.1, P12.2: at the flash's very end all is as elsewhere.
func TestAtTheEnd(t *testing.T) {
	f := floor(t, blanks(api.MaxFlash))
	b := made(t, f, api.MaxFlash-144, 64)
	saves(t, f, b, text(64, 1))
	saves(t, f, b, text(64, 2))
	saves(t, f, b, text(64, 3))
	holds(t, f, blanks(api.MaxFlash-144), image(0x5A, 3, text(64, 3)), image(0x5A, 2, text(64, 2)))
}

// P12.1, P6: places that are none, and those of which the end is no int any more.
func TestNewGreatPlaces(t *testing.T) {
	f := floor(t, blanks(200))
	for _, at := range []int{math.MinInt, math.MinInt + 16, math.MinInt32, -200, -16, -8, -1, 185, 200, 201, 4096, math.MaxInt32, 1 << 32, math.MaxInt - 144, math.MaxInt - 143, math.MaxInt - 16, math.MaxInt - 15, math.MaxInt - 8, math.MaxInt - 1, math.MaxInt} {
		for _, n := range []int{0, 1, 64} {
			if b, e := New(f, at, n); b != nil || e != 1 {
				t.Fatalf("New(%d, %d) makes %v, %d, want 1", at, n, b != nil, e)
			}
		}
	}
}

// P12.1, P2: a flash that is nil, or that no call made, is ErrZero, whatever else is wrong.
func TestNewWithoutFlash(t *testing.T) {
	for _, f := range []*flash.Flash{nil, new(flash.Flash), {}} {
		for _, at := range []int{math.MinInt, -1, 0, 1, math.MaxInt} {
			for _, n := range []int{math.MinInt, -1, 0, 4, 64, 65, math.MaxInt} {
				if b, e := New(f, at, n); b != nil || e != 7 {
					t.Fatalf("New(none, %d, %d) makes %v, %d, want 7", at, n, b != nil, e)
				}
			}
		}
	}
}

// P12.1: a flash of no bytes was made: it is too small.
func TestNewUponNothing(t *testing.T) {
	if b, e := New(floor(t, nil), 0, 0); b != nil || e != 1 {
		t.Fatalf("New makes %v, %d, want 1", b != nil, e)
	}
}

// P12.1: a bank may be made upon a dead flash, and does its work when that is woken; what can't be is refused of a dead one too.
func TestNewUponDead(t *testing.T) {
	f := floor(t, slices.Concat(image(0x5A, 5, []byte("five")), blanks(12)))
	f.Tear(0, 0)
	f.Write(0, nil)
	b := made(t, f, 0, 4)
	fails(t, b, api.ErrState)
	if b, e := New(f, 1, 4); b != nil || e != 1 {
		t.Fatalf("New makes %v, %d, want 1", b != nil, e)
	}
	f.Wake()
	tells(t, b, 5, []byte("five"))
	saves(t, f, b, []byte("six."))
	tells(t, b, 6, []byte("six."))
}

// P12.2, P2: data of any other length than n is ErrArg, and nothing is written.
func TestSaveOtherLengths(t *testing.T) {
	for _, n := range []int{0, 1, 2, 4, 63, 64} {
		f := floor(t, blanks(2*(n+8)))
		b := made(t, f, 0, n)
		for range 2 {
			for _, m := range []int{0, 1, n - 1, n + 1, n + 8, 2*n + 1, 64, 65, 4096} {
				if m >= 0 && m != n {
					refuses(t, f, b, text(m, 3), api.ErrArg)
				}
			}
			saves(t, f, b, text(n, 9))
		}
	}
	f := floor(t, blanks(18))
	b := made(t, f, 0, 1)
	for _, none := range [][]byte{nil, {}, make([]byte, 0, 1)} {
		refuses(t, f, b, none, api.ErrArg)
	}
}

// P12.1: a whole bank of which any one bit is turned is whole no more: the other one is told then, and if that is none, ErrSum.
func TestSpoiltBit(t *testing.T) {
	for _, n := range []int{0, 1, 4, 16} {
		old, young := image(0x5A, 6, text(n, 1)), image(0x5A, 7, text(n, 2))
		for at := range 8 * (n + 8) {
			bad := slices.Clone(young)
			bad[at/8] ^= 0x80 >> (at % 8)
			_, b := laid(t, old, bad)
			tells(t, b, 6, text(n, 1))
			_, b = laid(t, bad, old)
			tells(t, b, 6, text(n, 1))
			_, b = laid(t, bad, bad)
			fails(t, b, api.ErrSum)
			if b.Fresh() != (at < 8) {
				t.Fatalf("bit %d of both turned: fresh %v", at, b.Fresh())
			}
			_, b = laid(t, bad, blanks(n+8))
			fails(t, b, api.ErrSum)
			if b.Fresh() != (at < 8) {
				t.Fatalf("bit %d of bank 0 turned: fresh %v", at, b.Fresh())
			}
			_, b = laid(t, blanks(n+8), bad)
			fails(t, b, api.ErrSum)
			if b.Fresh() != (at < 8) {
				t.Fatalf("bit %d of bank 1 turned: fresh %v", at, b.Fresh())
			}
		}
	}
}

// P12.1: each byte that is not 5A is no sign.
func TestSigns(t *testing.T) {
	for sign := range 256 {
		one := image(byte(sign), 3, []byte("bell"))
		for _, both := range [][2][]byte{{one, blanks(12)}, {blanks(12), one}, {one, one}} {
			_, b := laid(t, both[0], both[1])
			if sign == 0x5A {
				tells(t, b, 3, []byte("bell"))
				continue
			}
			fails(t, b, api.ErrSum)
			if !b.Fresh() {
				t.Fatalf("sign %02x: not fresh", sign)
			}
		}
	}
}

// P12.1: the sum is of number and bytes, not of the sign too, nor of the bytes alone, and its highest byte is first.
func TestSums(t *testing.T) {
	good := image(0x5A, 9, []byte("tone"))
	_, b := laid(t, good, blanks(12))
	tells(t, b, 9, []byte("tone"))
	for _, wrong := range [][]byte{
		sum(good[:9]),
		sum(good[5:9]),
		sum(good[1:5]),
		{good[11], good[10], good[9]},
		{0, 0, 0},
		{0xFF, 0xFF, 0xFF},
	} {
		_, b := laid(t, slices.Concat(good[:9], wrong), blanks(12))
		fails(t, b, api.ErrSum)
	}
}

// P12.2: a Save goes over a bank that is spoilt, wherever the newest is, and never over the newest.
func TestSaveOverSpoilt(t *testing.T) {
	whole, spoilt := image(0x5A, 40, []byte("good")), image(0x5A, 41, []byte("evil"))
	spoilt[7] ^= 4
	f, b := laid(t, whole, spoilt)
	saves(t, f, b, []byte("next"))
	holds(t, f, whole, image(0x5A, 41, []byte("next")))
	f, b = laid(t, spoilt, whole)
	saves(t, f, b, []byte("next"))
	holds(t, f, image(0x5A, 41, []byte("next")), whole)
	f, b = laid(t, spoilt, spoilt)
	saves(t, f, b, []byte("next"))
	holds(t, f, image(0x5A, 1, []byte("next")), spoilt)
	tells(t, b, 1, []byte("next"))
}

// P12.1: of two whole banks that with the greater number is the newest, by all 32 bits and without a sign of its own.
func TestNewest(t *testing.T) {
	numbers := []uint32{0, 1, 2, 0xFF, 0x100, 0x1FF, 0x10000, 0xFFFFFF, 0x01000000, 0x7FFFFFFF, 0x80000000, 0x80000001, 0xFFFFFFFD, 0xFFFFFFFE}
	for i, x := range numbers {
		for j, y := range numbers {
			first, second := image(0x5A, x, []byte("one")), image(0x5A, y, []byte("two"))
			f, b := laid(t, first, second)
			newest, data := x, []byte("one")
			if j > i {
				newest, data = y, []byte("two")
			}
			tells(t, b, newest, data)
			if newest == 0xFFFFFFFE {
				refuses(t, f, b, []byte("new"), api.ErrFull)
				tells(t, b, newest, data)
				continue
			}
			saves(t, f, b, []byte("new"))
			if j > i {
				first = image(0x5A, newest+1, []byte("new"))
			} else {
				second = image(0x5A, newest+1, []byte("new"))
			}
			holds(t, f, first, second)
		}
	}
}

// P12.1, P12.2: of two whole ones with the same number bank 0 is the newest, and a Save goes into bank 1.
func TestSameNumber(t *testing.T) {
	for _, number := range []uint32{0, 1, 8, 0xFFFFFFFD} {
		f, b := laid(t, image(0x5A, number, []byte("one")), image(0x5A, number, []byte("two")))
		tells(t, b, number, []byte("one"))
		saves(t, f, b, []byte("new"))
		holds(t, f, image(0x5A, number, []byte("one")), image(0x5A, number+1, []byte("new")))
	}
}

// P12.1, P12.2: the number 0, which no Save writes, is one as others are; Number tells the same as of none then.
func TestNumberNought(t *testing.T) {
	f, b := laid(t, blanks(11), image(0x5A, 0, []byte("old")))
	tells(t, b, 0, []byte("old"))
	saves(t, f, b, []byte("new"))
	holds(t, f, image(0x5A, 1, []byte("new")), image(0x5A, 0, []byte("old")))
}

// P12.1, P12.2: a bank with the number FFFFFFFF and a right sum is not whole, though its sign lets it be fresh no more.
func TestNumberOfNone(t *testing.T) {
	none := image(0x5A, 0xFFFFFFFF, []byte("none"))
	for _, other := range [][]byte{blanks(12), none} {
		f, b := laid(t, none, other)
		fails(t, b, api.ErrSum)
		if b.Fresh() {
			t.Fatal("fresh")
		}
		saves(t, f, b, []byte("one."))
		holds(t, f, image(0x5A, 1, []byte("one.")), other)
	}
	old := image(0x5A, 2, []byte("old."))
	f, b := laid(t, none, old)
	tells(t, b, 2, []byte("old."))
	saves(t, f, b, []byte("new."))
	holds(t, f, image(0x5A, 3, []byte("new.")), old)
	f, b = laid(t, old, none)
	tells(t, b, 2, []byte("old."))
	saves(t, f, b, []byte("new."))
	holds(t, f, old, image(0x5A, 3, []byte("new.")))
}

// P12.2, P2: behind FFFFFFFD one more Save can be; behind FFFFFFFE it is ErrFull, and the record stays.
func TestFull(t *testing.T) {
	for which := range 2 {
		both := [2][]byte{blanks(12), blanks(12)}
		both[which] = image(0x5A, 0xFFFFFFFD, []byte("last"))
		f, b := laid(t, both[0], both[1])
		saves(t, f, b, []byte("very"))
		tells(t, b, 0xFFFFFFFE, []byte("very"))
		for range 3 {
			refuses(t, f, b, []byte("more"), 9)
			refuses(t, f, b, []byte("very"), 9)
			refuses(t, f, b, []byte("longer"), 1)
			refuses(t, f, b, nil, 1)
		}
		tells(t, b, 0xFFFFFFFE, []byte("very"))
		refuses(t, f, made(t, f, 0, 4), []byte("more"), 9)
		f.Tear(0, 0)
		refuses(t, f, b, []byte("more"), 9)
		f.Write(0, nil)
		refuses(t, f, b, []byte("more"), 5)
		refuses(t, f, b, []byte("longer"), 1)
	}
	// One that is not whole does not stand in the way.
	spoilt := image(0x5A, 0xFFFFFFFE, []byte("last"))
	spoilt[11] ^= 1
	f, b := laid(t, spoilt, image(0x5A, 4, []byte("four")))
	saves(t, f, b, []byte("five"))
	holds(t, f, image(0x5A, 5, []byte("five")), image(0x5A, 4, []byte("four")))
}

// torn is a bank's bytes when of a Save the Write behind k others is torn behind m bytes.
func torn(was []byte, is []byte, k int, m int) []byte {
	out := slices.Clone(was)
	if k > 0 || m > 0 {
		out[0] = 0
	}
	body := 0
	if k == 1 {
		body = min(m, len(is)-1)
	} else if k == 2 {
		body = len(is) - 1
	}
	copy(out[1:], is[1:1+body])
	if k == 2 && m > 0 {
		out[0] = 0x5A
	}
	return out
}

// P12.2, P12.4: a Save torn at each byte of each of its three Writes, into either bank: just those bytes stand, ErrState, no further Write, and when it is woken the old record is there or the new one.
func TestTornSave(t *testing.T) {
	for _, n := range []int{0, 1, 5, 64} {
		for saved := range uint32(5) {
			for k := range 3 {
				for m := range n + 10 {
					tornSave(t, n, saved, k, m)
				}
			}
		}
	}
}

func tornSave(t *testing.T, n int, saved uint32, k int, m int) {
	t.Helper()
	f := floor(t, blanks(2*(n+8)))
	b := made(t, f, 0, n)
	both := [2][]byte{blanks(n + 8), blanks(n + 8)}
	for i := range saved {
		saves(t, f, b, text(n, byte(i)))
		both[i%2] = image(0x5A, i+1, text(n, byte(i)))
	}
	begun := f.Writes()
	f.Tear(k, m)
	if e := b.Save(text(n, 0x99)); e != api.ErrState {
		t.Fatalf("Save torn at %d, %d = %v", k, m, e)
	}
	if f.Writes() != begun+k+1 || !f.Dead() {
		t.Fatalf("torn at %d, %d: %d Writes, dead %v", k, m, f.Writes()-begun, f.Dead())
	}
	which := saved % 2
	both[which] = torn(both[which], image(0x5A, saved+1, text(n, 0x99)), k, m)
	holds(t, f, both[0], both[1])
	f.Wake()
	done := saved
	switch {
	case k == 2 && m > 0:
		done++
		tells(t, b, done, text(n, 0x99))
	case saved > 0:
		tells(t, b, saved, text(n, byte(saved-1)))
	default:
		fails(t, b, api.ErrSum)
		if !b.Fresh() {
			t.Fatalf("torn at %d, %d: not fresh", k, m)
		}
	}
	// And it goes on as if nothing had been.
	saves(t, f, b, text(n, 0x55))
	tells(t, b, done+1, text(n, 0x55))
}

// P12.2: torn in the third Write the sign is there or it is not; ErrState is answered for both.
func TestTornSign(t *testing.T) {
	for m, there := range []bool{false, true, true} {
		f := floor(t, blanks(24))
		b := made(t, f, 0, 4)
		f.Tear(2, m)
		if e := b.Save([]byte("bell")); e != 5 {
			t.Fatalf("Save = %d, want 5", e)
		}
		f.Wake()
		if b.Fresh() == there {
			t.Fatalf("torn behind %d bytes of the third: fresh %v", m, b.Fresh())
		}
		if there {
			tells(t, b, 1, []byte("bell"))
		} else {
			fails(t, b, api.ErrSum)
		}
	}
}

// P12.4: torn again and again, at any Write, the last record that was saved is there still.
func TestTornOften(t *testing.T) {
	f := floor(t, blanks(30))
	b := made(t, f, 3, 4)
	saves(t, f, b, []byte("firm"))
	for i := range 60 {
		f.Tear(i%2, i%11)
		if e := b.Save(text(4, byte(i))); e != api.ErrState {
			t.Fatalf("Save = %v", e)
		}
		refuses(t, f, b, text(4, byte(i)), api.ErrState)
		f.Wake()
		tells(t, b, 1, []byte("firm"))
	}
	saves(t, f, b, []byte("next"))
	tells(t, b, 2, []byte("next"))
}

// P12.2: a Save begins three Writes, of 1, n + 7 and 1 bytes; a tear behind them is none of it.
func TestThreeWrites(t *testing.T) {
	for _, n := range []int{0, 4, 64} {
		f := floor(t, blanks(2*(n+8)))
		b := made(t, f, 0, n)
		for i := range 4 {
			saves(t, f, b, text(n, byte(i)))
			if f.Writes() != 1+3*(i+1) {
				t.Fatalf("behind %d saves: %d Writes", i+1, f.Writes())
			}
		}
		f.Tear(3, 0)
		saves(t, f, b, text(n, 50))
		if e := b.Save(text(n, 51)); e != api.ErrState {
			t.Fatalf("Save = %v", e)
		}
		f.Wake()
		tells(t, b, 5, text(n, 50))
	}
}

// P12.2, P12.4: what the torn bank had stays behind the bytes that came to stand, and is still no record.
func TestTornOverOld(t *testing.T) {
	f, b := laid(t, image(0x5A, 8, []byte("abcd")), image(0x5A, 7, []byte("efgh")))
	f.Tear(1, 6)
	if e := b.Save([]byte("ijkl")); e != 5 {
		t.Fatalf("Save = %d", e)
	}
	was := image(0, 7, []byte("efgh"))
	holds(t, f, image(0x5A, 8, []byte("abcd")), []byte{0, 0, 0, 0, 9, 'i', 'j'}, was[7:])
	f.Wake()
	tells(t, b, 8, []byte("abcd"))
}

// P12.1, P12.2, P2: of a dead flash: its error, no number, not fresh; the size is told; data of a wrong length is ErrArg ahead of it.
func TestDead(t *testing.T) {
	for _, first := range [][]byte{blanks(12), image(0x5A, 3, []byte("bell")), image(0x5A, 0xFFFFFFFE, []byte("bell")), image(0, 3, []byte("bell"))} {
		f, b := laid(t, first, blanks(12))
		f.Tear(0, 0)
		f.Write(0, nil)
		for range 2 {
			fails(t, b, 5)
			if b.Fresh() || b.Number() != 0 || b.Size() != 4 {
				t.Fatalf("fresh %v, number %d, size %d", b.Fresh(), b.Number(), b.Size())
			}
			refuses(t, f, b, []byte("four"), 5)
			refuses(t, f, b, []byte("five."), 1)
			refuses(t, f, b, []byte("six"), 1)
			refuses(t, f, b, nil, 1)
		}
		f.Wake()
		holds(t, f, first, blanks(12))
	}
}

// P12.1, P12.4: fresh upon a new flash, and behind a Save that was torn ahead of its sign; never behind one that was ended.
func TestFresh(t *testing.T) {
	f := floor(t, blanks(24))
	b := made(t, f, 0, 4)
	fresh := func(want bool) {
		t.Helper()
		for range 2 {
			if b.Fresh() != want {
				t.Fatalf("Fresh = %v, want %v", !want, want)
			}
		}
	}
	fresh(true)
	for k := range 3 {
		for m := range 12 {
			f.Tear(k, m)
			if k == 2 && m > 0 {
				break
			}
			b.Save([]byte("bell"))
			fresh(false)
			f.Wake()
			fresh(true)
		}
	}
	f.Wake()
	saves(t, f, b, []byte("bell"))
	for range 4 {
		fresh(false)
		for k := range 3 {
			f.Tear(k, k)
			b.Save([]byte("tone"))
			fresh(false)
			f.Wake()
			fresh(false)
		}
		saves(t, f, b, []byte("ring"))
	}
}

// P12.1: one sign, in either bank, is enough not to be fresh, whatever is behind it.
func TestFreshBySign(t *testing.T) {
	for at := range 24 {
		marked := blanks(24)
		marked[at] = 0x5A
		f := floor(t, marked)
		b := made(t, f, 0, 4)
		if b.Fresh() != (at != 0 && at != 12) {
			t.Fatalf("5A at %d: fresh %v", at, b.Fresh())
		}
		fails(t, b, api.ErrSum)
	}
}

// P12.3, P1, P2: of a nil bank, and of one that no call made, ErrZero, 0, false, whatever else is wrong.
func TestNoCallMadeIt(t *testing.T) {
	for _, b := range []*Bank{nil, new(Bank), {}} {
		for range 2 {
			for _, data := range [][]byte{nil, {}, {1}, make([]byte, 64), make([]byte, 65)} {
				if e := b.Save(data); e != 7 {
					t.Fatalf("Save(%d bytes) = %d, want 7", len(data), e)
				}
			}
			if got, e := b.Load(); len(got) != 0 || e != 7 {
				t.Fatalf("Load = %x, %d, want 7", got, e)
			}
			if b.Number() != 0 || b.Size() != 0 || b.Fresh() {
				t.Fatalf("number %d, size %d, fresh %v", b.Number(), b.Size(), b.Fresh())
			}
		}
	}
}

// P1: what its flash answers is told of a flash that became another one under the bank, and nothing panics.
func TestFlashTakenAway(t *testing.T) {
	f := floor(t, blanks(24))
	b := made(t, f, 0, 4)
	*f = *floor(t, blanks(20))
	fails(t, b, api.ErrArg)
	refuses(t, f, b, []byte("bell"), api.ErrArg)
	*f = flash.Flash{}
	fails(t, b, api.ErrZero)
	if e := b.Save([]byte("bell")); e != api.ErrZero {
		t.Fatalf("Save = %v", e)
	}
	if b.Fresh() || b.Size() != 4 {
		t.Fatalf("fresh %v, size %d", b.Fresh(), b.Size())
	}
}

// P12.1, P12.2: banks upon one flash at different places have nothing to do with each other, nor with what is between them.
func TestApart(t *testing.T) {
	f := floor(t, text(100, 0x20))
	was := all(t, f)
	a, b, c := made(t, f, 1, 4), made(t, f, 25, 0), made(t, f, 42, 20)
	saves(t, f, a, []byte("left"))
	fails(t, b, api.ErrSum)
	fails(t, c, api.ErrSum)
	if a.Fresh() || !b.Fresh() || !c.Fresh() {
		t.Fatalf("fresh %v, %v, %v", a.Fresh(), b.Fresh(), c.Fresh())
	}
	for i := range 3 {
		saves(t, f, c, text(20, byte(i)))
		saves(t, f, b, nil)
	}
	saves(t, f, a, []byte("last"))
	tells(t, a, 2, []byte("last"))
	tells(t, b, 3, nil)
	tells(t, c, 3, text(20, 2))
	holds(t, f, was[:1], image(0x5A, 1, []byte("left")), image(0x5A, 2, []byte("last")),
		image(0x5A, 3, nil), image(0x5A, 2, nil), was[41:42],
		image(0x5A, 3, text(20, 2)), image(0x5A, 2, text(20, 1)), was[98:])
	f.Tear(1, 3)
	if e := b.Save(nil); e != api.ErrState {
		t.Fatalf("Save = %v", e)
	}
	fails(t, a, api.ErrState)
	f.Wake()
	tells(t, a, 2, []byte("last"))
	tells(t, b, 3, nil)
	tells(t, c, 3, text(20, 2))
}

// P12.1: a copy of the flash with a bank of its own goes its own way.
func TestUponCopy(t *testing.T) {
	f := floor(t, blanks(24))
	b := made(t, f, 0, 4)
	saves(t, f, b, []byte("both"))
	g := f.Copy()
	c := made(t, g, 0, 4)
	saves(t, f, b, []byte("left"))
	tells(t, c, 1, []byte("both"))
	saves(t, g, c, []byte("more"))
	saves(t, g, c, []byte("last"))
	tells(t, b, 2, []byte("left"))
	tells(t, c, 3, []byte("last"))
}

// P4: what is handed in is as it was, behind its end too, and it is not kept.
func TestHandedIn(t *testing.T) {
	f := floor(t, blanks(28))
	b := made(t, f, 0, 6)
	whole := text(40, 7)
	was := slices.Clone(whole)
	data := whole[5:11]
	saves(t, f, b, data)
	refuses(t, f, b, whole[5:12], api.ErrArg)
	f.Tear(1, 4)
	b.Save(data)
	b.Save(data)
	f.Wake()
	if !bytes.Equal(whole, was) {
		t.Fatalf("what was handed in is %x now, was %x", whole, was)
	}
	for i := range whole {
		whole[i] ^= 0xFF
	}
	tells(t, b, 1, was[5:11])
	saves(t, f, b, []byte("second"))
	for i := range whole {
		if whole[i] != was[i]^0xFF {
			t.Fatal("a later Save changed what was handed in")
		}
	}
}

// P4: bytes that were loaded are new memory, up to their capacity: changed later they change no other answer, and no Save changes them.
func TestNewMemory(t *testing.T) {
	for _, n := range []int{0, 1, 6, 64} {
		f := floor(t, blanks(2*(n+8)))
		b := made(t, f, 0, n)
		want := text(n, 0x31)
		saves(t, f, b, want)
		held := all(t, f)
		one, _ := b.Load()
		two, _ := b.Load()
		full := one[:cap(one)]
		for i := range full {
			full[i] ^= 0x77
		}
		if !bytes.Equal(two, want) {
			t.Fatalf("two that were loaded share memory: %x, want %x", two, want)
		}
		holds(t, f, held)
		tells(t, b, 1, want)
		saves(t, f, b, text(n, 0x32))
		saves(t, f, b, text(n, 0x33))
		if !bytes.Equal(two, want) {
			t.Fatalf("what was loaded is %x now, was %x", two, want)
		}
	}
}

// P4: what was loaded can be saved again.
func TestLoadedSaved(t *testing.T) {
	f := floor(t, blanks(24))
	b := made(t, f, 0, 4)
	saves(t, f, b, []byte("bell"))
	for i := range uint32(4) {
		data, _ := b.Load()
		saves(t, f, b, data)
		tells(t, b, i+2, []byte("bell"))
	}
}

// P3: nil and empty lists are the same.
func TestNilAndEmpty(t *testing.T) {
	for _, none := range [][]byte{nil, {}, make([]byte, 0, 9), text(5, 1)[:0]} {
		f := floor(t, blanks(16))
		b := made(t, f, 0, 0)
		saves(t, f, b, none)
		holds(t, f, image(0x5A, 1, nil), blanks(8))
		tells(t, b, 1, none)
	}
}

// P5: the looks write nothing, and change no answer.
func TestLooks(t *testing.T) {
	f := floor(t, blanks(24))
	b := made(t, f, 0, 4)
	for i := range uint32(3) {
		was, begun := all(t, f), f.Writes()
		for range 3 {
			b.Load()
			b.Number()
			b.Size()
			b.Fresh()
		}
		holds(t, f, was)
		if f.Writes() != begun {
			t.Fatalf("%d Writes, were %d", f.Writes(), begun)
		}
		saves(t, f, b, text(4, byte(i)))
		tells(t, b, i+1, text(4, byte(i)))
	}
	// A tear that is due stays so through looks.
	f.Tear(0, 1)
	tells(t, b, 3, text(4, 2))
	if e := b.Save([]byte("torn")); e != api.ErrState {
		t.Fatalf("Save = %v", e)
	}
}

// twin is a record in two banks told in another way: from the bytes of the whole flash.
type twin struct {
	all  []byte
	at   int
	n    int
	dead bool
	k, m int // which Write is torn behind how many bytes; k below 0: none
}

func (w *twin) bank(which int) []byte {
	from := w.at + which*(w.n+8)
	return w.all[from : from+w.n+8]
}

// newest is its number and which bank it is; below 0 if there is none.
func (w *twin) newest() (int64, int) {
	most, best := int64(-1), -1
	for which := range 2 {
		b := w.bank(which)
		number := int64(b[1])<<24 | int64(b[2])<<16 | int64(b[3])<<8 | int64(b[4])
		if number == 0xFFFFFFFF || !bytes.Equal(b, image(0x5A, uint32(number), b[5:w.n+5])) {
			continue
		}
		if number > most {
			most, best = number, which
		}
	}
	return most, best
}

func (w *twin) save(data []byte) api.Errno {
	number, best := w.newest()
	switch {
	case len(data) != w.n:
		return api.ErrArg
	case w.dead:
		return api.ErrState
	case number == 0xFFFFFFFE:
		return api.ErrFull
	case best < 0:
		number = 0
	}
	bank := w.bank(0)
	if best == 0 {
		bank = w.bank(1)
	}
	is := image(0x5A, uint32(number+1), data)
	if w.k < 0 || w.k > 2 {
		copy(bank, is)
		w.k = max(w.k-3, -1)
		return api.OK
	}
	copy(bank, torn(bank, is, w.k, w.m))
	w.dead = true
	return api.ErrState
}

// All of it, with any calls in any order, bytes of the flash written over at any time, held against the twin.
func FuzzAll(f *testing.F) {
	f.Add(uint8(4), uint8(2), []byte{0, 1, 2, 0, 3, 3, 1, 1, 5, 0, 0, 0, 2, 0, 0, 0, 7, 7})
	f.Add(uint8(0), uint8(0), []byte{0, 0, 0, 0, 0, 0, 3, 1, 0xFF, 3, 2, 0xFF, 0, 0, 0, 4, 0, 0, 0, 0, 0, 4, 1, 0, 0, 0, 0})
	f.Add(uint8(64), uint8(9), bytes.Repeat([]byte{0, 9, 1, 1, 2, 0, 0, 4, 4, 2, 2, 2, 4, 1, 3, 0, 8, 8}, 5))
	f.Fuzz(func(t *testing.T, size uint8, place uint8, acts []byte) {
		n, at := int(size)%66, int(place)%20
		f := floor(t, blanks(at+144))
		b, e := New(f, at, n)
		if n > 64 {
			if b != nil || e != api.ErrArg {
				t.Fatalf("New makes %v, %v", b != nil, e)
			}
			return
		}
		w := &twin{all: blanks(at + 144), at: at, n: n, k: -1}
		for i := 0; i+3 <= len(acts) && i < 300; i += 3 {
			act(t, f, b, w, acts[i], int(acts[i+1]), acts[i+2])
			agrees(t, f, b, w)
		}
	})
}

// act does the same to both.
func act(t *testing.T, f *flash.Flash, b *Bank, w *twin, kind byte, x int, y byte) {
	t.Helper()
	switch kind % 5 {
	case 0:
		data := text(w.n, y)
		if x == 0xFF {
			data = text(w.n+1, y)
		}
		if got, want := b.Save(data), w.save(data); got != want {
			t.Fatalf("Save(%d bytes) = %v, want %v", len(data), got, want)
		}
	case 1:
		f.Tear(x%8-1, int(y)%80)
		w.k, w.m = x%8-1, int(y)%80
	case 2:
		f.Wake()
		w.dead, w.k = false, -1
	case 3:
		if !w.dead && w.k < 0 {
			at := x % len(w.all)
			f.Write(at, []byte{y})
			w.all[at] = y
		}
	case 4:
		if !w.dead && w.k < 0 {
			is := image(0x5A, 0xFFFFFFFF-uint32(y%5), text(w.n, y))
			f.Write(w.at+x%2*(w.n+8), is)
			copy(w.bank(x%2), is)
		}
	}
}

// agrees checks all that both tell.
func agrees(t *testing.T, f *flash.Flash, b *Bank, w *twin) {
	t.Helper()
	holds(t, f, w.all)
	if f.Dead() != w.dead || b.Size() != w.n {
		t.Fatalf("dead %v, size %d, want %v, %d", f.Dead(), b.Size(), w.dead, w.n)
	}
	if w.dead {
		fails(t, b, api.ErrState)
		if b.Fresh() {
			t.Fatal("fresh, though dead")
		}
		return
	}
	if fresh := w.bank(0)[0] != 0x5A && w.bank(1)[0] != 0x5A; b.Fresh() != fresh {
		t.Fatalf("Fresh = %v, want %v", !fresh, fresh)
	}
	number, best := w.newest()
	if best < 0 {
		fails(t, b, api.ErrSum)
		return
	}
	loads(t, b, w.bank(best)[5:5+w.n])
	if b.Number() != uint32(number) {
		t.Fatalf("Number = %d, want %d", b.Number(), number)
	}
}
