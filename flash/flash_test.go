package flash

import (
	"bytes"
	"math"
	"slices"
	"testing"

	"carillon/api"
)

// text is n bytes without a short period, none of them the same as in text of another first at the same place.
func text(n int, first byte) []byte {
	b := make([]byte, n)
	for i := range b {
		b[i] = byte(i*i>>3^i*11^i>>8) + first
	}
	return b
}

// blanks is n bytes as a new flash has them.
func blanks(n int) []byte {
	return bytes.Repeat([]byte{0xFF}, n)
}

// laid is what there is with b written over it at a place.
func laid(was []byte, at int, b []byte) []byte {
	is := slices.Clone(was)
	for i, c := range b {
		is[at+i] = c
	}
	return is
}

// made checks New where it is no error.
func made(t *testing.T, n int) *Flash {
	t.Helper()
	f, e := New(n)
	if f == nil || e != api.OK {
		t.Fatalf("New(%d) makes %v, %v", n, f != nil, e)
	}
	return f
}

// writes checks Write where it is no error.
func writes(t *testing.T, f *Flash, at int, b []byte) {
	t.Helper()
	begun := f.Writes()
	if e := f.Write(at, b); e != api.OK {
		t.Fatalf("Write(%d, %d bytes): %v", at, len(b), e)
	}
	if f.Dead() || f.Writes() != begun+1 {
		t.Fatalf("behind Write(%d, %d bytes): dead %v, %d writes, were %d", at, len(b), f.Dead(), f.Writes(), begun)
	}
}

// tears checks that a write is torn.
func tears(t *testing.T, f *Flash, at int, b []byte) {
	t.Helper()
	begun := f.Writes()
	if e := f.Write(at, b); e != api.ErrState {
		t.Fatalf("Write(%d, %d bytes) = %v, want it torn", at, len(b), e)
	}
	if !f.Dead() || f.Writes() != begun+1 {
		t.Fatalf("behind a torn Write(%d, %d bytes): dead %v, %d writes, were %d", at, len(b), f.Dead(), f.Writes(), begun)
	}
}

// refuses checks that a write is not even begun, and that it changes nothing.
func refuses(t *testing.T, f *Flash, at int, b []byte, want api.Errno) {
	t.Helper()
	was := f.Copy()
	if e := f.Write(at, b); e != want {
		t.Fatalf("Write(%d, %d bytes) of %d = %v, want %v", at, len(b), f.Len(), e, want)
	}
	alike(t, f, was)
}

// fails checks Read where it is an error, and that it changes nothing.
func fails(t *testing.T, f *Flash, at int, n int, want api.Errno) {
	t.Helper()
	was := f.Copy()
	if b, e := f.Read(at, n); len(b) != 0 || e != want {
		t.Fatalf("Read(%d, %d) of %d = %x, %v, want %v", at, n, f.Len(), b, e, want)
	}
	alike(t, f, was)
}

// reads checks Read where it is no error.
func reads(t *testing.T, f *Flash, at int, want []byte) {
	t.Helper()
	if b, e := f.Read(at, len(want)); !bytes.Equal(b, want) || e != api.OK {
		t.Fatalf("Read(%d, %d) = %x, %v, want %x", at, len(want), b, e, want)
	}
}

// holds checks that a flash has just these bytes, and no other.
func holds(t *testing.T, f *Flash, want []byte) {
	t.Helper()
	if f.Len() != len(want) {
		t.Fatalf("Len = %d, want %d", f.Len(), len(want))
	}
	reads(t, f, 0, want)
}

// stays checks what is in a flash that is dead, of which Read tells nothing.
func stays(t *testing.T, f *Flash, want []byte) {
	t.Helper()
	c := f.Copy()
	c.Wake()
	holds(t, c, want)
}

// told is all that a flash tells of itself.
type told struct {
	size   int
	dead   bool
	writes int
	bytes  string
	e      api.Errno
}

func tells(f *Flash) told {
	b, e := f.Read(0, f.Len())
	return told{f.Len(), f.Dead(), f.Writes(), string(b), e}
}

// alike checks that two are the same in all that they tell, now, and through the writes to come, and behind a Wake; neither is changed.
func alike(t *testing.T, f *Flash, g *Flash) {
	t.Helper()
	f, g = f.Copy(), g.Copy()
	if a, b := tells(f), tells(g); a != b {
		t.Fatalf("one is %v, the other %v", a, b)
	}
	for i := range 6 {
		all := text(f.Len(), 0x31+byte(i))
		a, b := f.Write(0, all), g.Write(0, all)
		if a != b || tells(f) != tells(g) {
			t.Fatalf("behind one more write: one is %v, %v, the other %v, %v", a, tells(f), b, tells(g))
		}
	}
	f.Wake()
	g.Wake()
	if a, b := tells(f), tells(g); a != b {
		t.Fatalf("behind Wake one is %v, the other %v", a, b)
	}
}

// P11.1, the chapter's example: the first byte is there, and ErrState.
func TestExample(t *testing.T) {
	f := made(t, 4)
	f.Tear(0, 1)
	if e := f.Write(1, []byte{1, 2}); e != 5 {
		t.Fatalf("Write = %d, want 5", e)
	}
	if !f.Dead() || f.Writes() != 1 {
		t.Fatalf("dead %v, %d writes", f.Dead(), f.Writes())
	}
	f.Wake()
	holds(t, f, []byte{0xFF, 1, 0xFF, 0xFF})
}

// P11.1, P11.4: of a torn write over older bytes just the first ones come to stand; the older ones behind them stay.
func TestTornOverOld(t *testing.T) {
	f := made(t, 6)
	writes(t, f, 0, []byte("abcdef"))
	f.Tear(0, 2)
	tears(t, f, 1, []byte("WXYZ"))
	f.Wake()
	holds(t, f, []byte("aWXdef"))
}

// P11.1: a new flash is n bytes FF, not dead, and no write was begun.
func TestNew(t *testing.T) {
	for _, n := range []int{0, 1, 2, 7, 64, 255, 256, 4095, 4096, api.MaxFlash} {
		f := made(t, n)
		holds(t, f, blanks(n))
		if f.Dead() || f.Writes() != 0 {
			t.Fatalf("New(%d): dead %v, %d writes", n, f.Dead(), f.Writes())
		}
		for range 5 {
			writes(t, f, n, nil)
		}
	}
}

// P11.1, P6: a size below 0 or above the limit is ErrArg, and there is no flash.
func TestNewRefuses(t *testing.T) {
	for _, n := range []int{-1, -2, -4096, math.MinInt32, math.MinInt, 4097, api.MaxFlash + 1, 1 << 13, math.MaxInt32, math.MaxInt} {
		if f, e := New(n); f != nil || e != 1 {
			t.Fatalf("New(%d) makes %v, %d, want 1", n, f != nil, e)
		}
	}
}

// P11.1: a flash of no bytes is one that a call made.
func TestOfNothing(t *testing.T) {
	f := made(t, 0)
	writes(t, f, 0, nil)
	writes(t, f, 0, []byte{})
	reads(t, f, 0, nil)
	refuses(t, f, 0, []byte{1}, api.ErrArg)
	refuses(t, f, 1, nil, api.ErrArg)
	refuses(t, f, -1, nil, api.ErrArg)
	fails(t, f, 0, 1, api.ErrArg)
	fails(t, f, 1, 0, api.ErrArg)
	fails(t, f, -1, 1, api.ErrArg)
	if f.Writes() != 2 {
		t.Fatalf("Writes = %d, want 2", f.Writes())
	}
	f.Tear(0, 0)
	tears(t, f, 0, nil)
	c := f.Copy()
	if c == nil || !c.Dead() || c.Writes() != 3 {
		t.Fatalf("Copy = %v", c)
	}
	f.Wake()
	writes(t, f, 0, nil)
}

// P11.1, P11.2: writes behind, across and within one another; the last that was at a byte tells it.
func TestWrites(t *testing.T) {
	f := made(t, 12)
	want := blanks(12)
	for _, w := range []struct {
		at int
		b  string
	}{{0, "abc"}, {3, "def"}, {2, "GHIJ"}, {4, "k"}, {11, "z"}, {9, "lmn"}, {0, "0123456789AB"}, {12, ""}, {5, ""}, {5, "\xff\x00"}, {0, ""}, {10, "yz"}} {
		writes(t, f, w.at, []byte(w.b))
		want = laid(want, w.at, []byte(w.b))
		holds(t, f, want)
	}
	if string(want) != "01234\xff\x00789yz" || f.Writes() != 12 {
		t.Fatalf("%q, %d writes", want, f.Writes())
	}
}

// P11.1: a byte may be written again and again, with any bits.
func TestAnyByte(t *testing.T) {
	f := made(t, 3)
	for c := range 512 {
		b := []byte{byte(c * 7)}
		writes(t, f, 1, b)
		holds(t, f, []byte{0xFF, b[0], 0xFF})
	}
}

// P11.1, P11.2, P11.4: each place and each length that a small flash has, and each beyond it.
func TestEachPlace(t *testing.T) {
	const size = 9
	for at := -3; at <= size+3; at++ {
		for n := 0; n <= size+3; n++ {
			f := made(t, size)
			was := text(size, 0x11)
			writes(t, f, 0, was)
			b := text(n, 0x77)
			if at < 0 || at+n > size {
				refuses(t, f, at, b, api.ErrArg)
				fails(t, f, at, n, api.ErrArg)
				holds(t, f, was)
				continue
			}
			reads(t, f, at, was[at:at+n])
			writes(t, f, at, b)
			holds(t, f, laid(was, at, b))
			reads(t, f, at, b)
		}
	}
}

// P11.1, P11.2: at the limit all is as below it.
func TestMaxFlash(t *testing.T) {
	f := made(t, api.MaxFlash)
	all := text(api.MaxFlash, 9)
	writes(t, f, 0, all)
	holds(t, f, all)
	writes(t, f, 4095, []byte{1})
	writes(t, f, 4090, []byte{2, 3, 4, 5})
	all = laid(laid(all, 4095, []byte{1}), 4090, []byte{2, 3, 4, 5})
	holds(t, f, all)
	reads(t, f, 4095, []byte{1})
	reads(t, f, 4096, nil)
	refuses(t, f, 4096, []byte{1}, api.ErrArg)
	refuses(t, f, 4095, []byte{1, 2}, api.ErrArg)
	refuses(t, f, 0, make([]byte, 4097), api.ErrArg)
	refuses(t, f, 1, make([]byte, 4096), api.ErrArg)
	fails(t, f, 0, 4097, api.ErrArg)
	fails(t, f, 1, 4096, api.ErrArg)
	fails(t, f, 4097, 0, api.ErrArg)
	f.Tear(0, 4095)
	tears(t, f, 0, make([]byte, 4096))
	stays(t, f, laid(all, 0, make([]byte, 4095)))
}

// P11.1, P11.2, P6, P1: numbers that are no place, nor can be added.
func TestGreatNumbers(t *testing.T) {
	f := made(t, 8)
	writes(t, f, 0, []byte("carillon"))
	ends := []int{math.MinInt, math.MinInt + 1, math.MinInt + 8, math.MinInt32, -9, -8, -1, 9, 1 << 31, 1 << 32, 1<<32 + 1, math.MaxInt - 8, math.MaxInt - 1, math.MaxInt}
	for _, at := range ends {
		for _, n := range []int{0, 1, 2, 8, 9} {
			refuses(t, f, at, make([]byte, n), api.ErrArg)
			fails(t, f, at, n, api.ErrArg)
		}
		for _, n := range ends {
			fails(t, f, at, n, api.ErrArg)
		}
	}
	for at := range 9 {
		for _, n := range ends {
			fails(t, f, at, n, api.ErrArg)
		}
	}
	holds(t, f, []byte("carillon"))
	if f.Writes() != 1 {
		t.Fatalf("Writes = %d, want 1", f.Writes())
	}
}

// P11.2: at and n below 0 together are no place, though each end lies below the end.
func TestReadBackwards(t *testing.T) {
	f := made(t, 8)
	for at := range 9 {
		for n := -1; n >= -10; n-- {
			fails(t, f, at, n, api.ErrArg)
		}
	}
}

// P11.1, P11.4: a torn write is cut to its first n bytes, all if it has no more; it is dead behind each of them.
func TestTorn(t *testing.T) {
	const size = 7
	for at := 0; at <= size; at++ {
		for long := 0; long <= size-at; long++ {
			for _, n := range []int{0, 1, 2, 3, 6, 7, 8, 4096, math.MaxInt32, math.MaxInt} {
				f := made(t, size)
				was := text(size, 0x21)
				writes(t, f, 0, was)
				b := text(long, 0x91)
				f.Tear(0, n)
				tears(t, f, at, b)
				want := laid(was, at, b[:min(long, n)])
				stays(t, f, want)
				f.Wake()
				holds(t, f, want)
			}
		}
	}
}

// P11.1: the write behind k others is torn, not one ahead, and not again.
func TestTearBehind(t *testing.T) {
	for k := range 40 {
		f := made(t, 4)
		f.Tear(k, 2)
		for i := range k {
			writes(t, f, 0, []byte{byte(i), byte(i + 1), byte(i + 2), byte(i + 3)})
		}
		was, _ := f.Read(0, 4)
		tears(t, f, 0, []byte{200, 201, 202, 203})
		if f.Writes() != k+1 {
			t.Fatalf("behind %d writes: Writes = %d", k, f.Writes())
		}
		f.Wake()
		holds(t, f, laid(was, 0, []byte{200, 201}))
		for range k + 2 {
			writes(t, f, 0, []byte{1, 2, 3, 4})
		}
	}
}

// P11.1: a tear behind more writes than there are ever is none.
func TestTearFarBehind(t *testing.T) {
	f := made(t, 2)
	f.Tear(math.MaxInt, 0)
	for range 5000 {
		writes(t, f, 0, []byte{1, 2})
	}
	f = made(t, 2)
	f.Tear(5000, 1)
	for range 5000 {
		writes(t, f, 0, []byte{1, 2})
	}
	tears(t, f, 0, []byte{3, 4})
	stays(t, f, []byte{3, 2})
}

// P11.1: k counts from the call on, and the writes ahead of it are none of them.
func TestTearFromNowOn(t *testing.T) {
	f := made(t, 2)
	for range 3 {
		writes(t, f, 0, []byte{1, 2})
	}
	f.Tear(2, 0)
	writes(t, f, 0, []byte{3, 4})
	writes(t, f, 0, []byte{5, 6})
	tears(t, f, 0, []byte{7, 8})
	stays(t, f, []byte{5, 6})
	if f.Writes() != 6 {
		t.Fatalf("Writes = %d, want 6", f.Writes())
	}
}

// P11.1: a later Tear takes the place of one that is due.
func TestTearAgain(t *testing.T) {
	f := made(t, 3)
	f.Tear(0, 0)
	f.Tear(1, 2)
	writes(t, f, 0, []byte{1, 2, 3})
	f.Tear(1, 1)
	writes(t, f, 0, []byte{4, 5, 6})
	tears(t, f, 0, []byte{7, 8, 9})
	stays(t, f, []byte{7, 5, 6})
}

// P11.1: with a k or an n below 0 none is to be torn, not even one that was due.
func TestTearOfNone(t *testing.T) {
	for _, c := range [][2]int{{-1, 0}, {0, -1}, {-1, -1}, {-1, 5}, {5, -1}, {math.MinInt, 0}, {0, math.MinInt}, {math.MinInt, math.MaxInt}, {math.MaxInt, math.MinInt}, {-64, 3}} {
		for _, due := range [][2]int{{-1, -1}, {0, 0}, {0, 1}, {1, 1}, {3, 0}} {
			f := made(t, 2)
			f.Tear(due[0], due[1])
			f.Tear(c[0], c[1])
			if f.Dead() {
				t.Fatalf("Tear(%d, %d): dead", c[0], c[1])
			}
			for i := range 8 {
				b := []byte{byte(i), byte(i + 1)}
				writes(t, f, 0, b)
				holds(t, f, b)
			}
		}
	}
}

// P11.1: a write that is refused is no write: it is not counted, not torn, and the tear is still due.
func TestRefusedWhileDue(t *testing.T) {
	for k := range 3 {
		f := made(t, 4)
		f.Tear(k, 1)
		for i := range k + 1 {
			refuses(t, f, -1, nil, api.ErrArg)
			refuses(t, f, 5, nil, api.ErrArg)
			refuses(t, f, 3, []byte{1, 2}, api.ErrArg)
			refuses(t, f, math.MaxInt, []byte{1, 2}, api.ErrArg)
			// Not even one of which the bytes that would be left would fit.
			refuses(t, f, 0, []byte{1, 2, 3, 4, 5}, api.ErrArg)
			if f.Dead() || f.Writes() != i {
				t.Fatalf("dead %v, %d writes, want %d", f.Dead(), f.Writes(), i)
			}
			if i < k {
				writes(t, f, 0, []byte{byte(i + 50)})
			}
		}
		tears(t, f, 2, []byte{8, 9})
	}
}

// P11.1: reads, and what else tells something, are no writes.
func TestReadsWhileDue(t *testing.T) {
	f := made(t, 2)
	f.Tear(0, 1)
	for range 5 {
		holds(t, f, blanks(2))
		fails(t, f, 0, 3, api.ErrArg)
		if f.Dead() || f.Writes() != 0 || f.Copy().Dead() {
			t.Fatalf("dead %v, %d writes", f.Dead(), f.Writes())
		}
	}
	tears(t, f, 0, []byte{1, 2})
	stays(t, f, []byte{1, 0xFF})
}

// P11.1, P11.2, P2: of one that is dead every write and every read is ErrState, ahead of ErrArg; its other calls tell what it has.
func TestDead(t *testing.T) {
	f := made(t, 4)
	writes(t, f, 0, []byte("bell"))
	f.Tear(0, 1)
	tears(t, f, 0, []byte("tone"))
	for _, at := range []int{math.MinInt, -1, 0, 1, 4, 5, math.MaxInt} {
		for _, n := range []int{0, 1, 4, 5} {
			refuses(t, f, at, text(n, 1), api.ErrState)
			fails(t, f, at, n, api.ErrState)
		}
		fails(t, f, at, -1, api.ErrState)
		fails(t, f, at, math.MaxInt, api.ErrState)
	}
	if !f.Dead() || f.Writes() != 2 || f.Len() != 4 {
		t.Fatalf("dead %v, %d writes, %d bytes", f.Dead(), f.Writes(), f.Len())
	}
	f.Wake()
	holds(t, f, []byte("tell"))
	if f.Dead() || f.Writes() != 2 {
		t.Fatalf("dead %v, %d writes", f.Dead(), f.Writes())
	}
}

// P11.1: a Tear of one that is dead, none to be torn or one, does not wake it; and Wake undoes it.
func TestTearOfDead(t *testing.T) {
	for _, c := range [][2]int{{-1, -1}, {0, 0}, {1, 1}, {0, 9}} {
		f := made(t, 2)
		f.Tear(0, 1)
		tears(t, f, 0, []byte{1, 2})
		f.Tear(c[0], c[1])
		refuses(t, f, 0, []byte{3, 4}, api.ErrState)
		fails(t, f, 0, 2, api.ErrState)
		if !f.Dead() {
			t.Fatalf("Tear(%d, %d) woke it", c[0], c[1])
		}
		f.Wake()
		holds(t, f, []byte{1, 0xFF})
		for range 4 {
			writes(t, f, 0, []byte{5, 6})
		}
	}
}

// P11.1: Wake of one that has a tear due: none is to be torn; of one that has none: nothing.
func TestWake(t *testing.T) {
	f := made(t, 2)
	f.Wake()
	holds(t, f, blanks(2))
	for k := range 3 {
		f.Tear(k, 0)
		f.Wake()
		if f.Dead() {
			t.Fatal("Wake: dead")
		}
		for range k + 2 {
			writes(t, f, 0, []byte{byte(k), 2})
		}
		holds(t, f, []byte{byte(k), 2})
	}
	f.Tear(0, 1)
	tears(t, f, 0, []byte{7, 8})
	f.Wake()
	f.Wake()
	holds(t, f, []byte{7, 2})
	// And it can be torn again.
	f.Tear(1, 0)
	writes(t, f, 1, []byte{9})
	tears(t, f, 0, []byte{1, 1})
	stays(t, f, []byte{7, 9})
}

// P11.1: Writes counts what was begun: no write that was refused, none while it was dead, but the torn ones.
func TestWritesCounts(t *testing.T) {
	f := made(t, 2)
	want := 0
	counts := func() {
		t.Helper()
		if f.Writes() != want {
			t.Fatalf("Writes = %d, want %d", f.Writes(), want)
		}
	}
	for range 3 {
		f.Write(0, []byte{1, 2})
		f.Write(2, nil)
		want += 2
		counts()
		f.Write(2, []byte{1})
		f.Write(-1, []byte{1})
		counts()
		f.Tear(0, 1)
		counts()
		f.Write(0, []byte{1, 2})
		want++
		counts()
		f.Write(0, []byte{1, 2})
		f.Write(9, nil)
		counts()
		f.Wake()
		counts()
	}
}

// P11.2: a copy is the same in all: bytes, what was begun, what is due, dead or not.
func TestCopy(t *testing.T) {
	fresh := made(t, 3)
	wrote := made(t, 3)
	writes(t, wrote, 0, []byte("abc"))
	due := wrote.Copy()
	due.Tear(2, 1)
	soon := due.Copy()
	writes(t, soon, 1, []byte("x"))
	dead := wrote.Copy()
	dead.Tear(0, 2)
	tears(t, dead, 0, []byte("XYZ"))
	woken := dead.Copy()
	woken.Wake()
	empty := made(t, 0)
	great := made(t, api.MaxFlash)
	writes(t, great, 0, text(api.MaxFlash, 5))
	for _, f := range []*Flash{fresh, wrote, due, soon, dead, woken, empty, great} {
		c := f.Copy()
		if c == nil || c == f {
			t.Fatalf("Copy = %p of %p", c, f)
		}
		alike(t, c, f)
		alike(t, c.Copy(), f)
	}
	if due.Writes() != 1 || soon.Writes() != 2 || !dead.Copy().Dead() || woken.Copy().Dead() {
		t.Fatal("the copies that were made of these are not what they should be")
	}
	// The tear that was due is due in the copy, behind just as many.
	c := soon.Copy()
	writes(t, c, 0, []byte("q"))
	tears(t, c, 0, []byte("rst"))
	stays(t, c, []byte("rxc"))
}

// P11.2: what becomes of one is nothing to the other.
func TestCopiesApart(t *testing.T) {
	for _, other := range []bool{false, true} {
		f := made(t, 4)
		writes(t, f, 0, []byte("bell"))
		f.Tear(1, 1)
		g := f.Copy()
		if other {
			f, g = g, f
		}
		was := g.Copy()
		writes(t, f, 0, []byte("tone"))
		alike(t, g, was)
		tears(t, f, 0, []byte("ring"))
		alike(t, g, was)
		f.Wake()
		alike(t, g, was)
		f.Tear(0, 0)
		alike(t, g, was)
		tears(t, f, 0, []byte("none"))
		holds(t, g, []byte("bell"))
		if g.Dead() || g.Writes() != 1 || f.Writes() != 4 {
			t.Fatalf("dead %v, %d and %d writes", g.Dead(), g.Writes(), f.Writes())
		}
		writes(t, g, 2, []byte("tt"))
		tears(t, g, 0, []byte("mute"))
		stays(t, g, []byte("mett"))
		stays(t, f, []byte("rone"))
	}
}

// P11.2: a copy of one that is dead is woken by itself.
func TestCopyOfDead(t *testing.T) {
	f := made(t, 2)
	f.Tear(0, 1)
	tears(t, f, 0, []byte{1, 2})
	g := f.Copy()
	f.Wake()
	if f.Dead() || !g.Dead() {
		t.Fatalf("dead %v and %v", f.Dead(), g.Dead())
	}
	refuses(t, g, 0, []byte{3}, api.ErrState)
	fails(t, g, 0, 0, api.ErrState)
	writes(t, f, 0, []byte{3, 4})
	g.Wake()
	holds(t, g, []byte{1, 0xFF})
}

// P11.3, P1, P2: of a nil flash, and of one that no call made, ErrZero, 0, false, nothing, whatever else is wrong.
func TestNoCallMadeIt(t *testing.T) {
	ends := []int{math.MinInt, -1, 0, 1, 4096, 4097, math.MaxInt}
	for _, f := range []*Flash{nil, new(Flash), {}} {
		for range 2 {
			for _, at := range ends {
				for _, n := range ends {
					if b, e := f.Read(at, n); len(b) != 0 || e != 7 {
						t.Fatalf("Read(%d, %d) = %x, %d, want 7", at, n, b, e)
					}
					f.Tear(at, n)
				}
				for _, b := range [][]byte{nil, {}, {1}, make([]byte, 4097)} {
					if e := f.Write(at, b); e != 7 {
						t.Fatalf("Write(%d, %d bytes) = %d, want 7", at, len(b), e)
					}
				}
			}
			f.Tear(0, 0)
			if f.Len() != 0 || f.Dead() || f.Writes() != 0 || f.Copy() != nil {
				t.Fatalf("%d bytes, dead %v, %d writes, copy %v", f.Len(), f.Dead(), f.Writes(), f.Copy())
			}
			f.Wake()
		}
	}
}

// P11.4: what no write is at stays, whole or torn, wherever the write is.
func TestStays(t *testing.T) {
	const size = 300
	want := text(size, 0x44)
	f := made(t, size)
	writes(t, f, 0, want)
	seed := uint32(1)
	next := func(below int) int {
		seed = seed*1664525 + 1013904223
		return int(seed>>8) % below
	}
	for range 3000 {
		at := next(size + 1)
		b := text(next(size-at+1), byte(next(256)))
		kept := b
		if next(3) == 0 {
			kept = b[:next(len(b)+1)]
			f.Tear(0, len(kept))
			tears(t, f, at, b)
			f.Wake()
		} else {
			writes(t, f, at, b)
		}
		want = laid(want, at, kept)
		holds(t, f, want)
	}
}

// P3: nil and empty lists are the same, and a write of no byte is a write.
func TestNilAndEmpty(t *testing.T) {
	for _, none := range [][]byte{nil, {}, make([]byte, 0, 9), text(5, 1)[:0]} {
		f := made(t, 3)
		for at := range 4 {
			writes(t, f, at, none)
		}
		refuses(t, f, 4, none, api.ErrArg)
		refuses(t, f, -1, none, api.ErrArg)
		holds(t, f, blanks(3))
		f.Tear(1, 2)
		writes(t, f, 3, none)
		tears(t, f, 3, none)
		refuses(t, f, 3, none, api.ErrState)
		stays(t, f, blanks(3))
	}
}

// P4: what is handed in is as it was, behind its end too, and it is not kept.
func TestHandedIn(t *testing.T) {
	f := made(t, 8)
	writes(t, f, 0, text(8, 0x60))
	whole := text(20, 3)
	was := slices.Clone(whole)
	b := whole[4:9]
	writes(t, f, 1, b)
	refuses(t, f, 4, b, api.ErrArg)
	f.Tear(0, 2)
	tears(t, f, 2, b)
	refuses(t, f, 0, b, api.ErrState)
	f.Wake()
	if !bytes.Equal(whole, was) {
		t.Fatalf("what was handed in is %x now, was %x", whole, was)
	}
	want := laid(laid(text(8, 0x60), 1, b), 2, b[:2])
	holds(t, f, want)
	for i := range whole {
		whole[i] ^= 0xFF
	}
	holds(t, f, want)
	writes(t, f, 7, []byte{9})
	if want = laid(want, 7, []byte{9}); whole[8] != was[8]^0xFF {
		t.Fatal("a later write changed what was handed in")
	}
	holds(t, f, want)
}

// P4: bytes that were read are new memory, up to their capacity: changed later they change no other answer, and no write changes them.
func TestNewMemory(t *testing.T) {
	f := made(t, 8)
	want := text(8, 0x70)
	writes(t, f, 0, want)
	for at := range 9 {
		for n := 0; at+n <= 8; n++ {
			a, _ := f.Read(at, n)
			b, _ := f.Read(at, n)
			full := a[:cap(a)]
			for i := range full {
				full[i] ^= 0x55
			}
			if !bytes.Equal(b, want[at:at+n]) {
				t.Fatalf("Read(%d, %d) shares memory with another", at, n)
			}
			holds(t, f, want)
		}
	}
	b, _ := f.Read(2, 4)
	writes(t, f, 0, make([]byte, 8))
	f.Tear(0, 5)
	tears(t, f, 0, []byte("abcdefgh"))
	if !bytes.Equal(b, want[2:6]) {
		t.Fatalf("what was read is %x now, was %x", b, want[2:6])
	}
}

// P4: what was read can be written to the same flash, beside and across its own place.
func TestReadWritten(t *testing.T) {
	f := made(t, 8)
	writes(t, f, 0, []byte("abcdefgh"))
	b, _ := f.Read(0, 6)
	writes(t, f, 2, b)
	holds(t, f, []byte("ababcdef"))
	b, _ = f.Read(2, 6)
	writes(t, f, 0, b)
	holds(t, f, []byte("abcdefef"))
}

// P4, P5: flashes share nothing with each other, and the same calls answer the same.
func TestApart(t *testing.T) {
	f, g := made(t, 5), made(t, 5)
	writes(t, f, 0, []byte("other"))
	f.Tear(0, 1)
	holds(t, g, blanks(5))
	writes(t, g, 0, []byte("other"))
	tears(t, f, 0, []byte{1, 2})
	if g.Dead() {
		t.Fatal("both are dead")
	}
	g.Tear(0, 1)
	tears(t, g, 0, []byte{1, 2})
	alike(t, f, g)
	holds(t, made(t, 5), blanks(5))
}

// twin is a flash told in another way: the bytes one by one that came to stand, the latest last, and the number of the write that is to be torn.
type twin struct {
	size   int
	places []int
	values []byte
	begun  int
	torn   int // as Writes counts; 0: none
	most   int
	dead   bool
}

func (w *twin) tear(k int, n int) {
	w.torn = 0
	if k >= 0 && n >= 0 {
		w.torn, w.most = w.begun+k+1, n
	}
}

func (w *twin) write(at int, b []byte) api.Errno {
	switch {
	case w.dead:
		return api.ErrState
	case at < 0 || at+len(b) > w.size:
		return api.ErrArg
	}
	w.begun++
	w.dead = w.begun == w.torn
	for i, c := range b {
		if !w.dead || i < w.most {
			w.places, w.values = append(w.places, at+i), append(w.values, c)
		}
	}
	if w.dead {
		return api.ErrState
	}
	return api.OK
}

func (w *twin) read(at int, n int) ([]byte, api.Errno) {
	switch {
	case w.dead:
		return nil, api.ErrState
	case at < 0 || n < 0 || at+n > w.size:
		return nil, api.ErrArg
	}
	all := blanks(w.size)
	for i, p := range w.places {
		all[p] = w.values[i]
	}
	return all[at : at+n], api.OK
}

func (w *twin) wake() {
	w.dead, w.torn = false, 0
}

// All of it, with any calls in any order, held against the twin; a copy that is made on the way goes on in its place.
func FuzzAll(f *testing.F) {
	f.Add(uint16(4), []byte{0, 1, 2, 1, 1, 1, 0, 0, 9, 2, 0, 4, 3, 0, 0, 2, 0, 4})
	f.Add(uint16(0), []byte{0, 3, 0, 1, 0, 0, 4, 0, 0, 3, 0, 0, 1, 0, 1})
	f.Add(uint16(40), bytes.Repeat([]byte{1, 3, 5, 0, 9, 11, 2, 4, 20, 1, 2, 3, 4, 1, 1}, 9))
	f.Fuzz(func(t *testing.T, size uint16, acts []byte) {
		a, e := New(int(size))
		if size > api.MaxFlash {
			if a != nil || e != api.ErrArg {
				t.Fatalf("New(%d) makes %v, %v", size, a != nil, e)
			}
			return
		}
		w := &twin{size: int(size)}
		for i := 0; i+3 <= len(acts) && i < 600; i += 3 {
			x, y := int(int8(acts[i+1])), int(acts[i+2])
			act(t, a, w, acts[i]%5, x, y-6)
			if acts[i]%7 == 6 {
				a = a.Copy()
			}
			if a.Dead() != w.dead || a.Writes() != w.begun || a.Len() != w.size {
				t.Fatalf("dead %v, %d writes, %d bytes, want %v, %d, %d", a.Dead(), a.Writes(), a.Len(), w.dead, w.begun, w.size)
			}
		}
		a.Wake()
		w.wake()
		all, _ := w.read(0, w.size)
		holds(t, a, all)
	})
}

// act does the same to both.
func act(t *testing.T, a *Flash, w *twin, kind byte, x int, y int) {
	t.Helper()
	switch kind {
	case 0:
		b := text(max(y, 0), byte(x))
		if got, want := a.Write(x, b), w.write(x, b); got != want {
			t.Fatalf("Write(%d, %d bytes) = %v, want %v", x, len(b), got, want)
		}
	case 1:
		a.Tear(x, y)
		w.tear(x, y)
	case 2:
		got, e := a.Read(x, y)
		want, wrong := w.read(x, y)
		if !bytes.Equal(got, want) || e != wrong {
			t.Fatalf("Read(%d, %d) = %x, %v, want %x, %v", x, y, got, e, want, wrong)
		}
	case 3:
		a.Wake()
		w.wake()
	default:
		a.Tear(x%4, y%8)
		w.tear(x%4, y%8)
	}
}
