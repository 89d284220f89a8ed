package reserve

import (
	"bytes"
	"encoding/hex"
	"math"
	"slices"
	"testing"

	"carillon/api"
	"carillon/bank"
	"carillon/flash"
)

// A bank's bytes with a record in it: the sign, the number, the record, the sum.
const bankBytes = 1 + 4 + 12 + 3

// writeBytes is how many bytes each of a save's three Writes has: the sign, what is behind it, the sign.
var writeBytes = [3]int{1, 19, 1}

// unhex is bytes by their digits.
func unhex(t testing.TB, s string) []byte {
	t.Helper()
	b, err := hex.DecodeString(s)
	if err != nil {
		t.Fatal(err)
	}
	return b
}

// sum is what stands behind a bank's bytes, by dividing them with 24 noughts behind them, bit for bit.
func sum(b []byte) []byte {
	rest := append(slices.Clone(b), 0, 0, 0)
	for i, c := range []byte{0xFE, 0xDC, 0xBA} {
		rest[i] ^= c
	}
	for at := range 8 * len(b) {
		if rest[at/8]>>(7-at%8)&1 == 0 {
			continue
		}
		for i := range 25 {
			bit := byte(uint32(0x15D6DCB)>>(24-i)) & 1
			rest[(at+i)/8] ^= bit << (7 - (at+i)%8)
		}
	}
	return rest[len(b):]
}

// four is a word's bytes.
func four(x uint32) []byte {
	return []byte{byte(x >> 24), byte(x >> 16), byte(x >> 8), byte(x)}
}

// image is the bytes of a whole bank with a record.
func image(number uint32, incarnation uint32, mark uint32, spare uint32) []byte {
	body := slices.Concat(four(number), four(incarnation), four(mark), four(spare))
	return slices.Concat([]byte{0x5A}, body, sum(body))
}

// blanks is n bytes as a new flash has them.
func blanks(n int) []byte {
	return bytes.Repeat([]byte{0xFF}, n)
}

// laid makes a bank of 12 bytes upon a flash that has just these bytes.
func laid(t testing.TB, parts ...[]byte) (*flash.Flash, *bank.Bank) {
	t.Helper()
	all := slices.Concat(parts...)
	f, e := flash.New(len(all))
	if e != api.OK {
		t.Fatalf("a flash of %d bytes: %v", len(all), e)
	}
	if e := f.Write(0, all); e != api.OK {
		t.Fatalf("the flash can't be written to: %v", e)
	}
	return f, sized(t, f, 12)
}

// sized makes a bank of n bytes at a flash's beginning.
func sized(t testing.TB, f *flash.Flash, n int) *bank.Bank {
	t.Helper()
	b, e := bank.New(f, 0, n)
	if e != api.OK {
		t.Fatalf("a bank of %d bytes: %v", n, e)
	}
	return b
}

// fresh makes a bank in which nothing was ever saved.
func fresh(t testing.TB) (*flash.Flash, *bank.Bank) {
	t.Helper()
	return laid(t, blanks(2*bankBytes))
}

// kill lets a flash be dead; its bytes stay.
func kill(f *flash.Flash) {
	f.Tear(0, 0)
	f.Write(0, nil)
}

// all is a flash's bytes, of a dead one too.
func all(t testing.TB, f *flash.Flash) []byte {
	t.Helper()
	f = f.Copy()
	f.Wake()
	b, e := f.Read(0, f.Len())
	if e != api.OK {
		t.Fatalf("the flash can't be read: %v", e)
	}
	return b
}

// holds checks that a flash has just these bytes.
func holds(t testing.TB, f *flash.Flash, want ...[]byte) {
	t.Helper()
	if got := all(t, f); !bytes.Equal(got, slices.Concat(want...)) {
		t.Fatalf("the flash has %x, want %x", got, slices.Concat(want...))
	}
}

// tells checks all that a reserve tells.
func tells(t testing.TB, r *Reserve, incarnation int, mark int, least int) {
	t.Helper()
	for range 2 {
		if r.Incarnation() != incarnation || r.Mark() != mark || r.Least() != least {
			t.Fatalf("incarnation %d, mark %d, least %d, want %d, %d, %d", r.Incarnation(), r.Mark(), r.Least(), incarnation, mark, least)
		}
	}
}

// opens checks Open where it is no error; it writes nothing, and Least is the mark.
func opens(t testing.TB, f *flash.Flash, b *bank.Bank, block int, incarnation int, mark int) *Reserve {
	t.Helper()
	was, begun := all(t, f), f.Writes()
	r, e := Open(b, block)
	if r == nil || e != api.OK {
		t.Fatalf("Open(%d) makes %v, %v", block, r != nil, e)
	}
	if f.Writes() != begun {
		t.Fatal("Open writes")
	}
	holds(t, f, was)
	tells(t, r, incarnation, mark, mark)
	return r
}

// shut checks Open where it is an error.
func shut(t testing.TB, b *bank.Bank, block int, want api.Errno) {
	t.Helper()
	for range 2 {
		if r, e := Open(b, block); r != nil || e != want {
			t.Fatalf("Open(%d) makes %v, %v, want %v", block, r != nil, e, want)
		}
	}
}

// takes checks Take where it is no error; saves is how often the record is saved (three Writes each).
func takes(t testing.TB, f *flash.Flash, r *Reserve, n int, saves int) {
	t.Helper()
	begun, incarnation := f.Writes(), r.Incarnation()
	if e := r.Take(n); e != api.OK {
		t.Fatalf("Take(%d) = %v", n, e)
	}
	if f.Writes() != begun+3*saves {
		t.Fatalf("Take(%d) begins %d Writes, want %d", n, f.Writes()-begun, 3*saves)
	}
	if r.Least() != n+1 || r.Incarnation() != incarnation {
		t.Fatalf("behind Take(%d): least %d, incarnation %d, was %d", n, r.Least(), r.Incarnation(), incarnation)
	}
}

// born checks Born where it is no error.
func born(t testing.TB, f *flash.Flash, r *Reserve) {
	t.Helper()
	begun, incarnation, mark, least := f.Writes(), r.Incarnation(), r.Mark(), r.Least()
	if e := r.Born(); e != api.OK {
		t.Fatalf("Born = %v", e)
	}
	if f.Writes() != begun+3 {
		t.Fatalf("Born begins %d Writes, want 3", f.Writes()-begun)
	}
	tells(t, r, incarnation+1, mark, least)
}

// still checks that a call is refused ahead of any Write, and changes nothing.
func still(t testing.TB, f *flash.Flash, r *Reserve, name string, call func() api.Errno, want api.Errno) {
	t.Helper()
	was, begun, incarnation, mark, least := all(t, f), f.Writes(), r.Incarnation(), r.Mark(), r.Least()
	if e := call(); e != want {
		t.Fatalf("%s = %v, want %v", name, e, want)
	}
	if f.Writes() != begun {
		t.Fatalf("%s, though refused, begins %d Writes", name, f.Writes()-begun)
	}
	holds(t, f, was)
	tells(t, r, incarnation, mark, least)
}

// refuses checks Take where it is an error ahead of any Write.
func refuses(t testing.TB, f *flash.Flash, r *Reserve, n int, want api.Errno) {
	t.Helper()
	still(t, f, r, "Take", func() api.Errno { return r.Take(n) }, want)
}

// unborn checks Born where it is an error ahead of any Write.
func unborn(t testing.TB, f *flash.Flash, r *Reserve, want api.Errno) {
	t.Helper()
	still(t, f, r, "Born", r.Born, want)
}

// stuck checks what is answered behind a save that was refused: ErrFull, for numbers below the mark too, but what can't be and what is old is told first.
func stuck(t testing.TB, f *flash.Flash, r *Reserve) {
	t.Helper()
	for range 2 {
		for _, n := range []int{r.Least(), r.Mark() - 1, r.Mark(), r.Mark() + 1, r.Mark() + 5000, api.MaxRounds - 1} {
			if n >= r.Least() && n < api.MaxRounds {
				refuses(t, f, r, n, api.ErrFull)
			}
		}
		unborn(t, f, r, api.ErrFull)
		if r.Least() > 0 {
			refuses(t, f, r, r.Least()-1, api.ErrOld)
			refuses(t, f, r, 0, api.ErrOld)
		}
		refuses(t, f, r, -1, api.ErrArg)
		refuses(t, f, r, api.MaxRounds, api.ErrArg)
	}
}

// P13.1, P13.2, the chapter's example: Open, Take(5) with blocks of 8: Mark 13; opened again Least is 13.
func TestExample(t *testing.T) {
	f, b := fresh(t)
	r := opens(t, f, b, 8, 0, 0)
	if e := r.Take(5); e != 0 || r.Mark() != 13 {
		t.Fatalf("Take(5) = %d, mark %d, want 0, 13", e, r.Mark())
	}
	again, e := Open(b, 8)
	if e != 0 || again.Least() != 13 {
		t.Fatalf("opened again: %d, least %d, want 0, 13", e, again.Least())
	}
}

// P13.2: the bytes of both banks behind each save, worked out apart from the program: incarnation, mark, 0.
func TestWrittenOut(t *testing.T) {
	f, b := fresh(t)
	r := opens(t, f, b, 8, 0, 0)
	takes(t, f, r, 5, 1)
	holds(t, f, unhex(t, "5a00000001000000000000000d000000005bd08c"), blanks(20))
	born(t, f, r)
	holds(t, f, unhex(t, "5a00000001000000000000000d000000005bd08c"), unhex(t, "5a00000002000000010000000d000000004b9e2f"))
	takes(t, f, r, 13, 1)
	holds(t, f, unhex(t, "5a00000003000000010000001500000000b54546"), unhex(t, "5a00000002000000010000000d000000004b9e2f"))
	takes(t, f, r, 1048575, 1)
	holds(t, f, unhex(t, "5a00000003000000010000001500000000b54546"), unhex(t, "5a0000000400000001001000000000000024f2f1"))
	opens(t, f, b, 8, 1, 1<<20)
}

// P13.1, P13.2: a record that stands there is gone on from: bytes worked out apart.
func TestGoesOnWrittenOut(t *testing.T) {
	f, b := laid(t, blanks(20), unhex(t, "5a000000070000fffe0001234500000000021b3d"))
	r := opens(t, f, b, 1024, 65534, 0x12345)
	born(t, f, r)
	holds(t, f, unhex(t, "5a000000080000ffff0001234500000000cb2df5"), unhex(t, "5a000000070000fffe0001234500000000021b3d"))
	takes(t, f, r, 1<<20-1024, 1)
	holds(t, f, unhex(t, "5a000000080000ffff0001234500000000cb2df5"), unhex(t, "5a000000090000ffff00100000000000000929ba"))
}

// What the tests reckon with is itself held against what was worked out apart.
func TestImage(t *testing.T) {
	for want, got := range map[string][]byte{
		"5a00000002000000010000000d000000004b9e2f": image(2, 1, 13, 0),
		"5afffffffd0000fffe000ffff000000000709db0": image(0xFFFFFFFD, 65534, 0xFFFF0, 0),
		"5afffffffe0000ffff000ffff00000000060d313": image(0xFFFFFFFE, 65535, 0xFFFF0, 0),
	} {
		if hex.EncodeToString(got) != want {
			t.Fatalf("%x, want %s", got, want)
		}
	}
}

// P13.2: numbers taken one behind the other: the record is saved at the first of each block, and at no other.
func TestOneBehindTheOther(t *testing.T) {
	for _, block := range []int{1, 2, 3, 7, 8, 64, 1023, 1024} {
		f, b := fresh(t)
		r := opens(t, f, b, block, 0, 0)
		for n := range 3*block + 2 {
			saves := 0
			if n%block == 0 {
				saves = 1
			}
			takes(t, f, r, n, saves)
			tells(t, r, 0, n/block*block+block, n+1)
		}
		opens(t, f, b, block, 0, (3*block+1)/block*block+block)
	}
}

// P13.2: numbers may be left out; a block begins at the number that is taken, not at the one that could have been.
func TestLeftOut(t *testing.T) {
	f, b := fresh(t)
	r := opens(t, f, b, 10, 0, 0)
	for _, c := range []struct{ n, saves, mark int }{
		{3, 1, 13}, {4, 0, 13}, {7, 0, 13}, {12, 0, 13}, {13, 1, 23}, {23, 1, 33}, {24, 0, 33}, {34, 1, 44}, {43, 0, 44}, {45, 1, 55}, {1000, 1, 1010}, {1009, 0, 1010}, {1011, 1, 1021}, {100000, 1, 100010},
	} {
		takes(t, f, r, c.n, c.saves)
		tells(t, r, 0, c.mark, c.n+1)
	}
}

// P13.2: n just below Least is old, n just at it is not; behind each Take it is one more.
func TestLeast(t *testing.T) {
	f, b := laid(t, image(4, 9, 500, 0), blanks(20))
	r := opens(t, f, b, 8, 9, 500)
	for _, n := range []int{0, 1, 250, 498, 499} {
		refuses(t, f, r, n, api.ErrOld)
	}
	takes(t, f, r, 500, 1)
	for n := 500; n < 530; n++ {
		for _, old := range []int{0, 499, n - 1, n} {
			refuses(t, f, r, old, api.ErrOld)
		}
		saves := 0
		if (n+1-500)%8 == 0 {
			saves = 1
		}
		takes(t, f, r, n+1, saves)
	}
}

// P13.2: n just below Mark is taken without a save, n just at it with one.
func TestMark(t *testing.T) {
	for _, block := range []int{2, 8, 1024} {
		for _, first := range []int{0, 1, 77} {
			for _, c := range []struct{ beyond, saves int }{{-1, 0}, {0, 1}, {1, 1}} {
				f, b := fresh(t)
				r := opens(t, f, b, block, 0, 0)
				takes(t, f, r, first, 1)
				mark := first + block
				tells(t, r, 0, mark, first+1)
				n := mark + c.beyond
				takes(t, f, r, n, c.saves)
				if c.saves > 0 {
					mark = n + block
				}
				tells(t, r, 0, mark, n+1)
				opens(t, f, b, block, 0, mark)
			}
		}
	}
}

// P13.2: a block of 1 saves at each number; opened again just those that were taken are old.
func TestBlockOfOne(t *testing.T) {
	f, b := fresh(t)
	for n := range 20 {
		r := opens(t, f, b, 1, 0, n)
		if n > 0 {
			refuses(t, f, r, n-1, api.ErrOld)
		}
		takes(t, f, r, n, 1)
		tells(t, r, 0, n+1, n+1)
	}
}

// P13.1: blocks of 1 to 1024 can be, and no other.
func TestBlocks(t *testing.T) {
	f, b := fresh(t)
	for _, block := range []int{1, 2, 3, 8, 511, 1023, 1024} {
		opens(t, f, b, block, 0, 0)
	}
	for _, block := range []int{math.MinInt, math.MinInt32, -1024, -8, -1, 0, 1025, 1026, 4096, api.MaxRounds, math.MaxInt32, math.MaxInt} {
		shut(t, b, block, api.ErrArg)
	}
}

// P13.1: the block is Open's, not the record's: opened again with another one, that holds.
func TestOtherBlock(t *testing.T) {
	f, b := fresh(t)
	r := opens(t, f, b, 8, 0, 0)
	takes(t, f, r, 0, 1)
	r = opens(t, f, b, 1024, 0, 8)
	takes(t, f, r, 8, 1)
	r = opens(t, f, b, 1, 0, 1032)
	takes(t, f, r, 1032, 1)
	opens(t, f, b, 8, 0, 1033)
}

// P13.1: a bank of 12 bytes can be, of 11 and 13 and any other number not, whatever is in it.
func TestBankSizes(t *testing.T) {
	for n := range 65 {
		f, _ := laid(t, blanks(200))
		b := sized(t, f, n)
		for range 2 {
			if n == 12 {
				opens(t, f, b, 8, 0, 0)
			} else {
				shut(t, b, 8, api.ErrArg)
			}
			if e := b.Save(make([]byte, n)); e != api.OK {
				t.Fatalf("Save of %d bytes = %v", n, e)
			}
		}
	}
}

// P13.2, P6: what Take can't have, at any place of the numbers.
func TestTakeEnds(t *testing.T) {
	for _, n := range []int{math.MinInt, math.MinInt32, -api.MaxRounds, -2, -1, 1048576, api.MaxRounds, api.MaxRounds + 1, 1 << 32, math.MaxInt - 1024, math.MaxInt - 1, math.MaxInt} {
		f, b := fresh(t)
		r := opens(t, f, b, 8, 0, 0)
		refuses(t, f, r, n, api.ErrArg)
		takes(t, f, r, 3, 1)
		refuses(t, f, r, n, api.ErrArg)
		takes(t, f, r, 4, 0)
		tells(t, r, 0, 11, 5)
	}
	f, b := fresh(t)
	r := opens(t, f, b, 8, 0, 0)
	takes(t, f, r, 0, 1)
	tells(t, r, 0, 8, 1)
	takes(t, f, r, 1048575, 1)
	tells(t, r, 0, 1048576, 1048576)
	refuses(t, f, r, 1048575, api.ErrOld)
	refuses(t, f, r, 1048576, api.ErrArg)
	born(t, f, r)
	tells(t, opens(t, f, b, 8, 1, 1<<20), 1, 1<<20, 1<<20)
}

// P13.2: n and block just below, at and beyond MaxRounds: the mark is at most MaxRounds, and all numbers below it can be taken then.
func TestMarkAtTheEnd(t *testing.T) {
	for _, block := range []int{1, 2, 8, 1023, 1024} {
		for _, over := range []int{-2, -1, 0, 1, 2, block - 2, block - 1} {
			n := api.MaxRounds - block + over
			if n >= api.MaxRounds {
				continue
			}
			f, b := fresh(t)
			r := opens(t, f, b, block, 0, 0)
			takes(t, f, r, n, 1)
			mark := api.MaxRounds + min(over, 0)
			tells(t, r, 0, mark, n+1)
			opens(t, f, b, block, 0, mark)
			for next := n + 1; next < api.MaxRounds; next++ {
				saves := 0
				if next == mark {
					saves, mark = 1, min(next+block, api.MaxRounds)
				}
				takes(t, f, r, next, saves)
				tells(t, r, 0, mark, next+1)
			}
			refuses(t, f, r, api.MaxRounds-1, api.ErrOld)
			refuses(t, f, r, api.MaxRounds, api.ErrArg)
			opens(t, f, b, block, 0, api.MaxRounds)
		}
	}
}

// P13.1: marks at their end in the record: at MaxRounds there is nothing left to take, beyond it it is no record.
func TestMarkFound(t *testing.T) {
	for _, mark := range []int{0, 1, 255, 256, 65536, api.MaxRounds - 1, api.MaxRounds} {
		f, b := laid(t, image(1, 3, uint32(mark), 0), blanks(20))
		r := opens(t, f, b, 8, 3, mark)
		if mark > 0 {
			refuses(t, f, r, mark-1, api.ErrOld)
		}
		if mark == api.MaxRounds {
			refuses(t, f, r, mark, api.ErrArg)
			born(t, f, r)
			continue
		}
		takes(t, f, r, mark, 1)
		tells(t, r, 3, min(mark+8, api.MaxRounds), mark+1)
	}
	for _, mark := range []uint32{1048577, 1048578, 1 << 21, 1 << 24, 1<<31 - 1, 1 << 31, 1<<31 + 5, 0xFFFFFFFE, 0xFFFFFFFF} {
		for _, incarnation := range []uint32{0, 1, 65535, 65536} {
			_, b := laid(t, image(1, incarnation, mark, 0), blanks(20))
			shut(t, b, 8, api.ErrSum)
		}
	}
}

// P13.1, P13.2: incarnations at their end in the record: 65535 is the last that is born, beyond it it is no record.
func TestIncarnationFound(t *testing.T) {
	f, b := laid(t, image(1, 65534, 40, 0), blanks(20))
	r := opens(t, f, b, 8, 65534, 40)
	born(t, f, r)
	tells(t, r, 65535, 40, 40)
	unborn(t, f, r, api.ErrFull)
	opens(t, f, b, 8, 65535, 40)

	f, b = laid(t, image(1, 65535, 40, 0), blanks(20))
	r = opens(t, f, b, 8, 65535, 40)
	// That is no save that was refused: numbers can be taken, and saved, all the same.
	for _, n := range []int{40, 41, 48, 49, 1000} {
		unborn(t, f, r, api.ErrFull)
		takes(t, f, r, n, map[int]int{40: 1, 48: 1, 1000: 1}[n])
	}
	tells(t, r, 65535, 1008, 1001)
	opens(t, f, b, 8, 65535, 1008)

	for _, incarnation := range []uint32{65536, 65537, 1 << 17, 1<<31 - 1, 1 << 31, 1<<31 + 7, 0xFFFFFFFF} {
		for _, mark := range []uint32{0, 40, api.MaxRounds} {
			_, b := laid(t, image(1, incarnation, mark, 0), blanks(20))
			shut(t, b, 8, api.ErrSum)
		}
	}
}

// P13.2: Born saves an incarnation that is one more, with the mark as it is, and each is told once.
func TestBorn(t *testing.T) {
	f, b := fresh(t)
	for i := range 12 {
		r := opens(t, f, b, 8, i, 0)
		born(t, f, r)
		tells(t, opens(t, f, b, 8, i+1, 0), i+1, 0, 0)
	}
	// Neither is forgotten in the other's save.
	r := opens(t, f, b, 8, 12, 0)
	for i := range 5 {
		born(t, f, r)
		opens(t, f, b, 8, 13+i, r.Mark())
		takes(t, f, r, 100*i, 1)
		tells(t, r, 13+i, 100*i+8, 100*i+1)
		opens(t, f, b, 8, 13+i, 100*i+8)
	}
}

// P13.2: all incarnations there are, up to the last, none of them twice.
func TestAllIncarnations(t *testing.T) {
	f, b := fresh(t)
	r := opens(t, f, b, 8, 0, 0)
	for i := range 65535 {
		if e := r.Born(); e != api.OK || r.Incarnation() != i+1 {
			t.Fatalf("Born = %v, incarnation %d, want %d", e, r.Incarnation(), i+1)
		}
	}
	unborn(t, f, r, api.ErrFull)
	takes(t, f, r, 0, 1)
	opens(t, f, b, 8, 65535, 8)
}

// P13.1: a fresh bank has incarnation 0, mark 0, whatever bytes are in it.
func TestFresh(t *testing.T) {
	for _, c := range []byte{0xFF, 0, 1, 0x59, 0x5B, 0xA5, 0xDA} {
		f, b := laid(t, bytes.Repeat([]byte{c}, 40))
		r := opens(t, f, b, 8, 0, 0)
		takes(t, f, r, 0, 1)
		holds(t, f, image(1, 0, 8, 0), bytes.Repeat([]byte{c}, 20))
	}
	// A record that is all there but for its sign was never ended.
	unsigned := image(5, 7, 70, 0)
	unsigned[0] = 0
	f, b := laid(t, unsigned, unsigned)
	opens(t, f, b, 8, 0, 0)
}

// P13.1: a bank that is not fresh, though none is whole, is not begun anew: what was taken can't be known.
func TestNotFreshNotWhole(t *testing.T) {
	spoilt := image(5, 7, 70, 0)
	spoilt[19] ^= 1
	numberless := image(0xFFFFFFFF, 7, 70, 0)
	for _, bad := range [][]byte{spoilt, numberless, bytes.Repeat([]byte{0x5A}, 20), append([]byte{0x5A}, blanks(19)...)} {
		for _, both := range [][2][]byte{{bad, blanks(20)}, {blanks(20), bad}, {bad, bad}, {bad, make([]byte, 20)}, {make([]byte, 20), bad}} {
			_, b := laid(t, both[0], both[1])
			for _, block := range []int{1, 8, 1024} {
				shut(t, b, block, api.ErrSum)
			}
		}
		// One that is whole is enough.
		f, b := laid(t, bad, image(3, 2, 50, 0))
		opens(t, f, b, 8, 2, 50)
	}
}

// P13.1: it is the newest record that is gone on from, whichever bank it is in.
func TestNewest(t *testing.T) {
	f, b := laid(t, image(8, 2, 20, 0), image(9, 1, 10, 0))
	opens(t, f, b, 8, 1, 10)
	f, b = laid(t, image(9, 1, 10, 0), image(8, 2, 20, 0))
	opens(t, f, b, 8, 1, 10)
	// It is looked at alone: an older one that is right does not stand in for it.
	_, b = laid(t, image(8, 2, 20, 0), image(9, 65536, 10, 0))
	shut(t, b, 8, api.ErrSum)
	_, b = laid(t, image(8, 2, 20, 0), image(9, 1, api.MaxRounds+1, 0))
	shut(t, b, 8, api.ErrSum)
	f, b = laid(t, image(8, 65536, api.MaxRounds+1, 0), image(9, 1, 10, 0))
	opens(t, f, b, 8, 1, 10)
}

// P13.1, P13.2: the chapter names no error for a spare that is not 0; the record that is saved has 0 there.
func TestSpare(t *testing.T) {
	for _, spare := range []uint32{1, 0x80000000, 0xFFFFFFFF} {
		f, b := laid(t, image(4, 6, 30, spare), blanks(20))
		r := opens(t, f, b, 8, 6, 30)
		takes(t, f, r, 30, 1)
		holds(t, f, image(4, 6, 30, spare), image(5, 6, 38, 0))
		born(t, f, r)
		holds(t, f, image(6, 7, 38, 0), image(5, 6, 38, 0))
	}
}

// P13.1, P1, P2: a bank that is nil, or that no call made, is ErrZero, whatever the block is.
func TestOpenWithoutBank(t *testing.T) {
	for _, b := range []*bank.Bank{nil, new(bank.Bank), {}} {
		for _, block := range []int{math.MinInt, -1, 0, 1, 8, 1024, 1025, math.MaxInt} {
			shut(t, b, block, api.ErrZero)
		}
	}
}

// P13.1, P2: several faults at once: the block's and the size's ahead of what the bank tells.
func TestOpenSeveralFaults(t *testing.T) {
	for _, block := range []int{-1, 0, 1025} {
		f, b := laid(t, image(1, 65536, api.MaxRounds+1, 0), blanks(20))
		shut(t, b, block, api.ErrArg)
		kill(f)
		shut(t, b, block, api.ErrArg)
		_, b = laid(t, bytes.Repeat([]byte{0x5A}, 40))
		shut(t, b, block, api.ErrArg)
	}
	for _, n := range []int{0, 11, 13} {
		f, _ := laid(t, bytes.Repeat([]byte{0x5A}, 42))
		b := sized(t, f, n)
		shut(t, b, 8, api.ErrArg)
		shut(t, b, 0, api.ErrArg)
		kill(f)
		shut(t, b, 8, api.ErrArg)
		shut(t, b, 1025, api.ErrArg)
	}
	// A dead flash ahead of a record that can't be.
	f, b := laid(t, image(1, 65536, api.MaxRounds+1, 0), blanks(20))
	kill(f)
	shut(t, b, 8, api.ErrState)
	f.Wake()
	shut(t, b, 8, api.ErrSum)
}

// P13.1, P1: a bank was made, though its flash became another one under it: what it tells is told, behind the arguments.
func TestFlashTakenAway(t *testing.T) {
	f, b := fresh(t)
	none := sized(t, f, 0)
	small, _ := flash.New(10)
	*f = *small
	shut(t, b, 8, api.ErrArg)
	*f = flash.Flash{}
	shut(t, b, 8, api.ErrZero)
	shut(t, b, 0, api.ErrArg)
	shut(t, none, 8, api.ErrArg)
}

// P13.2, P1: a bank that is taken away under a reserve refuses its saves, and nothing panics.
func TestBankTakenAway(t *testing.T) {
	f, b := fresh(t)
	r := opens(t, f, b, 8, 0, 0)
	takes(t, f, r, 0, 1)
	*b = bank.Bank{}
	takes(t, f, r, 1, 0)
	refuses(t, f, r, 8, api.ErrZero)
	stuck(t, f, r)

	f, b = fresh(t)
	r = opens(t, f, b, 8, 0, 0)
	*b = *sized(t, f, 4)
	unborn(t, f, r, api.ErrArg)
	stuck(t, f, r)
}

// P13.3, P1, P2: of a nil reserve, and of one that no call made, ErrZero and 0, whatever else is wrong.
func TestNoCallMadeIt(t *testing.T) {
	for _, r := range []*Reserve{nil, new(Reserve), {}} {
		for range 2 {
			for _, n := range []int{math.MinInt, -1, 0, 1, 5, api.MaxRounds - 1, api.MaxRounds, math.MaxInt} {
				if e := r.Take(n); e != 7 {
					t.Fatalf("Take(%d) = %d, want 7", n, e)
				}
			}
			if e := r.Born(); e != 7 {
				t.Fatalf("Born = %d, want 7", e)
			}
			tells(t, r, 0, 0, 0)
		}
	}
}

// P13.1, P13.2: a dead flash at every call: it can't be opened, numbers below the mark need no save, all else is refused by it, once.
func TestDead(t *testing.T) {
	f, b := laid(t, image(2, 5, 16, 0), blanks(20))
	kill(f)
	for _, block := range []int{1, 8, 1024} {
		shut(t, b, block, api.ErrState)
	}
	f.Wake()
	r := opens(t, f, b, 8, 5, 16)
	takes(t, f, r, 18, 1)
	kill(f)
	takes(t, f, r, 19, 0)
	takes(t, f, r, 24, 0)
	tells(t, r, 5, 26, 25)
	refuses(t, f, r, 24, api.ErrOld)
	refuses(t, f, r, -1, api.ErrArg)
	refuses(t, f, r, 26, api.ErrState)
	stuck(t, f, r)
	f.Wake()
	stuck(t, f, r)
	opens(t, f, b, 8, 5, 26)

	r = opens(t, f, b, 8, 5, 26)
	kill(f)
	unborn(t, f, r, api.ErrState)
	stuck(t, f, r)
	f.Wake()
	stuck(t, f, r)

	// The last incarnation is told ahead of what the flash would say, and that is no save.
	f, b = laid(t, image(2, 65535, 16, 0), blanks(20))
	r = opens(t, f, b, 8, 65535, 16)
	kill(f)
	unborn(t, f, r, api.ErrFull)
	f.Wake()
	takes(t, f, r, 16, 1)

	// A fresh bank upon a dead flash can't be told to be fresh.
	f, b = fresh(t)
	kill(f)
	shut(t, b, 8, api.ErrState)
}

// P13.2: a bank whose numbers are at their end refuses a save with ErrFull; behind it a number below the mark is refused too.
func TestBankFull(t *testing.T) {
	for _, last := range []string{"Take", "Born"} {
		f, b := laid(t, image(0xFFFFFFFD, 3, 100, 0), blanks(20))
		r := opens(t, f, b, 8, 3, 100)
		takes(t, f, r, 100, 1)
		takes(t, f, r, 101, 0)
		holds(t, f, image(0xFFFFFFFD, 3, 100, 0), image(0xFFFFFFFE, 3, 108, 0))
		if last == "Born" {
			unborn(t, f, r, api.ErrFull)
		} else {
			refuses(t, f, r, 108, api.ErrFull)
		}
		refuses(t, f, r, 102, api.ErrFull)
		stuck(t, f, r)
		// Opened again it is told what stands, and refused again when it saves.
		r = opens(t, f, b, 8, 3, 108)
		refuses(t, f, r, 108, api.ErrFull)
	}
}

// P13.2, P2: which error is told first.
func TestSeveralFaults(t *testing.T) {
	f, b := laid(t, image(2, 5, 16, 0), blanks(20))
	r := opens(t, f, b, 8, 5, 16)
	// Below 0 is below Least, too.
	refuses(t, f, r, -1, api.ErrArg)
	kill(f)
	refuses(t, f, r, -1, api.ErrArg)
	refuses(t, f, r, api.MaxRounds, api.ErrArg)
	refuses(t, f, r, 15, api.ErrOld)
	// Neither was a save that was refused.
	refuses(t, f, r, 16, api.ErrState)
	refuses(t, f, r, 16, api.ErrFull)
	refuses(t, f, r, 15, api.ErrOld)
	refuses(t, f, r, -1, api.ErrArg)
	refuses(t, f, r, api.MaxRounds, api.ErrArg)
	unborn(t, f, r, api.ErrFull)
}

// start is a bank in which the next save goes to one bank or the other: what was there, and what record it has.
type start struct {
	first, second     []byte
	incarnation, mark int
}

func starts() []start {
	return []start{
		{blanks(20), blanks(20), 0, 0},
		{make([]byte, 20), blanks(20), 0, 0},
		{image(1, 3, 40, 0), blanks(20), 3, 40},
		{image(1, 3, 40, 0), image(2, 4, 48, 0), 4, 48},
		{image(3, 4, 56, 0), image(2, 4, 48, 0), 4, 56},
		{image(7, 65534, 9000, 0), image(6, 65533, 8000, 0), 65534, 9000},
	}
}

// P13.2, P13.4: a Take whose save is torn at each byte of each of its Writes takes nothing; woken and opened again the old or the new mark is told, and what was taken ahead is old.
func TestTornTake(t *testing.T) {
	for _, s := range starts() {
		for _, within := range []int{0, 3, 8} {
			for k := range writeBytes {
				for m := range writeBytes[k] + 2 {
					f, b := laid(t, s.first, s.second)
					r := opens(t, f, b, 8, s.incarnation, s.mark)
					mark, least := s.mark, s.mark
					for n := range within {
						takes(t, f, r, s.mark+n, map[int]int{0: 1}[n])
						mark, least = s.mark+8, s.mark+n+1
					}
					f.Tear(k, m)
					if e := r.Take(mark + 2); e != api.ErrState {
						t.Fatalf("Take torn at %d, %d = %v", k, m, e)
					}
					tells(t, r, s.incarnation, mark, least)
					stuck(t, f, r)
					shut(t, b, 8, api.ErrState)
					f.Wake()
					stuck(t, f, r)
					if k == 2 && m > 0 {
						mark += 2 + 8
					}
					r = opens(t, f, b, 8, s.incarnation, mark)
					for n := range within {
						refuses(t, f, r, s.mark+n, api.ErrOld)
					}
					takes(t, f, r, mark, 1)
					born(t, f, r)
				}
			}
		}
	}
}

// P13.2, P13.4: a Born whose save is torn at each byte of each of its Writes is not told; woken and opened again the next one that is born is none that was told.
func TestTornBorn(t *testing.T) {
	for _, s := range starts() {
		for k := range writeBytes {
			for m := range writeBytes[k] + 2 {
				f, b := laid(t, s.first, s.second)
				r := opens(t, f, b, 8, s.incarnation, s.mark)
				f.Tear(k, m)
				if e := r.Born(); e != api.ErrState {
					t.Fatalf("Born torn at %d, %d = %v", k, m, e)
				}
				tells(t, r, s.incarnation, s.mark, s.mark)
				stuck(t, f, r)
				f.Wake()
				stuck(t, f, r)
				incarnation := s.incarnation
				if k == 2 && m > 0 {
					incarnation++
				}
				r = opens(t, f, b, 8, incarnation, s.mark)
				if incarnation == 65535 {
					unborn(t, f, r, api.ErrFull)
				} else {
					born(t, f, r)
				}
				takes(t, f, r, s.mark, 1)
			}
		}
	}
}

// P13.2: numbers below the mark need no save, so that a tear that is due does not reach them; but behind a torn Born they are refused.
func TestTornBornWithinBlock(t *testing.T) {
	f, b := fresh(t)
	r := opens(t, f, b, 8, 0, 0)
	takes(t, f, r, 0, 1)
	f.Tear(0, 0)
	takes(t, f, r, 1, 0)
	takes(t, f, r, 2, 0)
	if e := r.Born(); e != api.ErrState {
		t.Fatalf("Born = %v", e)
	}
	f.Wake()
	refuses(t, f, r, 3, api.ErrFull)
	tells(t, r, 0, 8, 3)
	r = opens(t, f, b, 8, 0, 8)
	refuses(t, f, r, 3, api.ErrOld)
	takes(t, f, r, 8, 1)
}

// life is what a node would do with one bank through many crashes: all that was ever taken, and all that was ever born.
type life struct {
	taken map[int]int
	born  map[int]int
	rand  uint32
}

// next is a number below n, by a rule that has nothing to do with what is tested.
func (l *life) next(n int) int {
	l.rand = l.rand*1664525 + 1013904223
	return int(l.rand>>8) % n
}

// use asks for numbers and incarnations until a save is refused, or it is enough.
func (l *life) use(t *testing.T, r *Reserve) {
	t.Helper()
	for range 30 {
		n := max(0, r.Least()+l.next(14)-4)
		if l.next(9) == 0 {
			if r.Born() == api.OK {
				l.born[r.Incarnation()]++
			}
		} else if r.Take(n) == api.OK {
			l.taken[n]++
		}
	}
	for n, times := range l.taken {
		if times != 1 || n >= r.Least() {
			t.Fatalf("%d was taken %d times, and least is %d", n, times, r.Least())
		}
	}
	for i, times := range l.born {
		if times != 1 || i > r.Incarnation() {
			t.Fatalf("%d was born %d times, and the last one is %d", i, times, r.Incarnation())
		}
	}
}

// P13.4: through many crashes, torn anywhere, no number is taken twice, and no incarnation is told twice as born.
func TestManyCrashes(t *testing.T) {
	for seed := range uint32(40) {
		l := &life{taken: map[int]int{}, born: map[int]int{}, rand: seed}
		f, b := fresh(t)
		for range 40 {
			block := 1 + l.next(12)
			r, e := Open(b, block)
			if e != api.OK {
				t.Fatalf("Open = %v", e)
			}
			f.Tear(l.next(24), l.next(21))
			l.use(t, r)
			if l.next(3) == 0 {
				l.use(t, r)
			}
			f.Wake()
			l.use(t, r)
		}
		if len(l.taken) < 100 || len(l.born) < 10 {
			t.Fatalf("only %d were taken, %d born", len(l.taken), len(l.born))
		}
	}
}

// P13.4: a crash at any call, not just at a save: what was taken below the mark is old when opened again.
func TestOpenedAgain(t *testing.T) {
	f, b := fresh(t)
	last := -1
	for i := range 50 {
		r, e := Open(b, 8)
		if e != api.OK || r.Least() <= last {
			t.Fatalf("Open = %v, least %d behind %d", e, r.Least(), last)
		}
		for range i % 11 {
			last = r.Least()
			if e := r.Take(last); e != api.OK {
				t.Fatalf("Take(%d) = %v", last, e)
			}
		}
		tells(t, opens(t, f, b, 8, 0, r.Mark()), 0, r.Mark(), r.Mark())
	}
}

// P13.1, P5: two reserves upon one bank, one behind the other: the later one goes on from what the earlier one saved, and what the earlier one tells hangs on its own calls alone.
func TestTwoReserves(t *testing.T) {
	f, b := fresh(t)
	one := opens(t, f, b, 8, 0, 0)
	born(t, f, one)
	takes(t, f, one, 3, 1)
	two := opens(t, f, b, 8, 1, 11)
	for n := range 11 {
		refuses(t, f, two, n, api.ErrOld)
	}
	born(t, f, two)
	takes(t, f, two, 11, 1)
	tells(t, two, 2, 19, 12)
	tells(t, one, 1, 11, 4)
	// What the earlier one may still take without a save the later one can't have taken.
	takes(t, f, one, 4, 0)
	refuses(t, f, two, 4, api.ErrOld)
	opens(t, f, b, 8, 2, 19)

	// A save of the one that is refused is not the other's.
	f.Tear(0, 0)
	if e := two.Take(19); e != api.ErrState {
		t.Fatalf("Take = %v", e)
	}
	f.Wake()
	stuck(t, f, two)
	takes(t, f, one, 10, 0)
	three := opens(t, f, b, 8, 2, 19)
	takes(t, f, three, 19, 1)
	born(t, f, three)
	stuck(t, f, two)
	tells(t, three, 3, 27, 20)
}

// P13.1, P13.2: reserves upon banks at different places of one flash have nothing to do with each other.
func TestApart(t *testing.T) {
	f, _ := flash.New(100)
	left, e := bank.New(f, 0, 12)
	if e != api.OK {
		t.Fatal(e)
	}
	right, e := bank.New(f, 43, 12)
	if e != api.OK {
		t.Fatal(e)
	}
	one, two := opens(t, f, left, 8, 0, 0), opens(t, f, right, 100, 0, 0)
	takes(t, f, one, 5, 1)
	born(t, f, two)
	takes(t, f, two, 5, 1)
	holds(t, f, image(1, 0, 13, 0), blanks(23), image(1, 1, 0, 0), image(2, 1, 105, 0), blanks(17))
	opens(t, f, left, 8, 0, 13)
	opens(t, f, right, 8, 1, 105)
}

// P5: the looks write nothing, and change no answer; the same calls are answered the same.
func TestLooks(t *testing.T) {
	f, b := fresh(t)
	g, c := fresh(t)
	r, s := opens(t, f, b, 8, 0, 0), opens(t, g, c, 8, 0, 0)
	for _, n := range []int{0, 3, 2, 8, -1, 7, 100, api.MaxRounds, 99, 101} {
		for range 3 {
			r.Mark()
			r.Least()
			r.Incarnation()
		}
		if one, two := r.Take(n), s.Take(n); one != two {
			t.Fatalf("Take(%d) = %v, and %v without looks", n, one, two)
		}
		tells(t, r, s.Incarnation(), s.Mark(), s.Least())
		holds(t, f, all(t, g))
	}
}

// twin is a reserve told in another way: the record as it would be found, and what the reserve holds.
type twin struct {
	block             int
	found             [2]int // incarnation and mark, as opened again
	number            uint32
	dead              bool
	k, m              int // which Write is torn behind how many bytes; k below 0: none
	held              [2]int
	least             int
	refused, standing bool
}

func (w *twin) open() api.Errno {
	w.standing = false
	switch {
	case w.dead:
		return api.ErrState
	case w.found[0] > 65535 || w.found[1] > 1<<20:
		return api.ErrSum
	}
	w.held, w.least, w.refused, w.standing = w.found, w.found[1], false, true
	return api.OK
}

func (w *twin) save(next [2]int) api.Errno {
	e := api.OK
	switch {
	case w.refused:
		return api.ErrFull
	case w.dead:
		e = api.ErrState
	case w.number == 0xFFFFFFFE:
		e = api.ErrFull
	case w.k >= 0 && w.k <= 2:
		w.dead, e = true, api.ErrState
		if w.k == 2 && w.m > 0 {
			w.found, w.number = next, w.number+1
		}
	default:
		w.k = max(w.k-3, -1)
		w.found, w.held, w.number = next, next, w.number+1
	}
	w.refused = e != api.OK
	return e
}

func (w *twin) take(n int) api.Errno {
	switch {
	case !w.standing:
		return api.ErrZero
	case n < 0 || n > 1<<20-1:
		return api.ErrArg
	case n < w.least:
		return api.ErrOld
	case w.refused:
		return api.ErrFull
	}
	if n >= w.held[1] {
		if e := w.save([2]int{w.held[0], min(n+w.block, 1<<20)}); e != api.OK {
			return e
		}
	}
	w.least = n + 1
	return api.OK
}

func (w *twin) born() api.Errno {
	switch {
	case !w.standing:
		return api.ErrZero
	case w.held[0] == 65535:
		return api.ErrFull
	}
	return w.save([2]int{w.held[0] + 1, w.held[1]})
}

// All of it, with any calls in any order, crashes and records of other hands at any time, held against the twin.
func FuzzAll(f *testing.F) {
	f.Add(uint16(8), []byte{0, 0, 5, 1, 0, 0, 4, 0, 0, 0, 0, 20, 2, 1, 3, 0, 0, 60, 1, 0, 0, 3, 0, 0, 4, 0, 0})
	f.Add(uint16(1024), []byte{6, 0, 0, 4, 0, 0, 0, 200, 0, 5, 1, 1, 4, 0, 0, 1, 0, 0, 1, 0, 0, 1, 0, 0})
	f.Add(uint16(1), bytes.Repeat([]byte{0, 0, 1, 2, 2, 1, 0, 0, 2, 3, 0, 0, 4, 0, 0, 1, 0, 0}, 9))
	f.Fuzz(func(t *testing.T, size uint16, acts []byte) {
		block := int(size) % 1026
		f, b := fresh(t)
		r, e := Open(b, block)
		if block < 1 || block > 1024 {
			if r != nil || e != api.ErrArg {
				t.Fatalf("Open(%d) makes %v, %v", block, r != nil, e)
			}
			return
		}
		w := &twin{block: block, k: -1}
		w.open()
		for i := 0; i+3 <= len(acts) && i < 300; i += 3 {
			r = act(t, f, b, r, w, acts[i], int(acts[i+1]), int(acts[i+2]))
			tells(t, r, w.held[0], w.held[1], w.least)
			if f.Dead() != w.dead {
				t.Fatalf("dead %v, want %v", f.Dead(), w.dead)
			}
		}
	})
}

// act does the same to both.
func act(t *testing.T, f *flash.Flash, b *bank.Bank, r *Reserve, w *twin, kind byte, x int, y int) *Reserve {
	t.Helper()
	switch kind % 7 {
	case 0:
		n := w.least + y - 20
		if x >= 0xF0 {
			n = 1<<20 + y - 128
		}
		if got, want := r.Take(n), w.take(n); got != want {
			t.Fatalf("Take(%d) = %v, want %v", n, got, want)
		}
	case 1:
		if got, want := r.Born(), w.born(); got != want {
			t.Fatalf("Born = %v, want %v", got, want)
		}
	case 2:
		w.k, w.m = x%8-1, y%24
		f.Tear(w.k, w.m)
	case 3:
		f.Wake()
		w.dead, w.k = false, -1
	case 4:
		next, got := Open(b, w.block)
		if want := w.open(); got != want || (next != nil) != (got == api.OK) {
			t.Fatalf("Open makes %v, %v, want %v", next != nil, got, want)
		}
		if next == nil {
			w.held, w.least = [2]int{}, 0
		}
		return next
	case 5, 6:
		if w.dead || w.k >= 0 {
			break
		}
		w.found, w.number = [2]int{65532 + x%5, 1<<20 - 40 + y%42}, 1000
		if kind%7 == 6 {
			w.number = 0xFFFFFFFB + uint32(x%4)
		}
		f.Write(0, image(w.number, uint32(w.found[0]), uint32(w.found[1]), 0))
		f.Write(20, blanks(20))
	}
	return r
}
