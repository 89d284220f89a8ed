package bits

import (
	"bytes"
	"math"
	"math/big"
	"slices"
	"testing"

	"carillon/api"
)

// text is n bytes without a short period.
func text(n int) []byte {
	b := make([]byte, n)
	for i := range b {
		b[i] = byte(i*i>>3 ^ i*11 ^ i>>8 ^ 0xA5)
	}
	return b
}

// ones is the greatest number of so many bits.
func ones(width int) uint64 {
	if width == 64 {
		return math.MaxUint64
	}
	return 1<<width - 1
}

// spell is bits told in another way: as digits.
func spell(n uint64, width int) string {
	s := new(big.Int).SetUint64(n).Text(2)
	if width == 0 {
		return ""
	}
	return string(bytes.Repeat([]byte{'0'}, width-len(s))) + s
}

// spellAll is the digits of all bytes.
func spellAll(b []byte) string {
	s := ""
	for _, c := range b {
		s += spell(uint64(c), 8)
	}
	return s
}

// packed is the bytes of digits, the last of them filled up with 0.
func packed(digits string) []byte {
	b := make([]byte, (len(digits)+7)/8)
	for i, d := range digits {
		if d == '1' {
			b[i/8] |= 0x80 >> (i % 8)
		}
	}
	return b
}

// puts checks Put where it is no error.
func puts(t *testing.T, w *Writer, n uint64, width int) {
	t.Helper()
	if e := w.Put(n, width); e != api.OK {
		t.Fatalf("Put(%x, %d): %v", n, width, e)
	}
}

// writes checks Bytes of a writer where it is no error.
func writes(t *testing.T, w *Writer, b []byte) {
	t.Helper()
	if e := w.Bytes(b); e != api.OK {
		t.Fatalf("Bytes of %d bytes: %v", len(b), e)
	}
}

// holds checks that a writer has just these bits.
func holds(t *testing.T, w *Writer, digits string) {
	t.Helper()
	if w.Len() != len(digits) {
		t.Fatalf("Len = %d, want %d", w.Len(), len(digits))
	}
	if got, want := w.Done(), packed(digits); !bytes.Equal(got, want) {
		t.Fatalf("Done = %x, want %x", got, want)
	}
}

// gets checks Get where it is no error.
func gets(t *testing.T, r *Reader, width int, want uint64) {
	t.Helper()
	left := r.Left()
	if n, e := r.Get(width); n != want || e != api.OK {
		t.Fatalf("Get(%d) with %d left = %x, %v, want %x", width, left, n, e, want)
	}
	if r.Left() != left-width {
		t.Fatalf("Left = %d behind Get(%d), was %d", r.Left(), width, left)
	}
}

// reads checks Bytes of a reader where it is no error.
func reads(t *testing.T, r *Reader, want []byte) {
	t.Helper()
	left := r.Left()
	if b, e := r.Bytes(len(want)); !bytes.Equal(b, want) || e != api.OK {
		t.Fatalf("Bytes(%d) with %d left = %x, %v, want %x", len(want), left, b, e, want)
	}
	if r.Left() != left-8*len(want) {
		t.Fatalf("Left = %d behind Bytes(%d), was %d", r.Left(), len(want), left)
	}
}

// getFails and readFails check errors, and that nothing was taken.
func getFails(t *testing.T, r *Reader, width int, want api.Errno) {
	t.Helper()
	left := r.Left()
	if n, e := r.Get(width); n != 0 || e != want || r.Left() != left {
		t.Fatalf("Get(%d) with %d left = %x, %v, and %d left, want %v", width, left, n, e, r.Left(), want)
	}
}

func readFails(t *testing.T, r *Reader, n int, want api.Errno) {
	t.Helper()
	left := r.Left()
	if b, e := r.Bytes(n); len(b) != 0 || e != want || r.Left() != left {
		t.Fatalf("Bytes(%d) with %d left = %x, %v, and %d left, want %v", n, left, b, e, r.Left(), want)
	}
}

// ends checks End, twice: it takes nothing.
func ends(t *testing.T, r *Reader, want api.Errno) {
	t.Helper()
	left := r.Left()
	for range 2 {
		if e := r.End(); e != want || r.Left() != left {
			t.Fatalf("End with %d left = %v, and %d left, want %v", left, e, r.Left(), want)
		}
	}
}

// full is a writer of so many bits.
func full(t *testing.T, size int) (*Writer, string) {
	t.Helper()
	w := NewWriter()
	b := text(size / 8)
	writes(t, w, b)
	puts(t, w, ones(size%8), size%8)
	return w, spellAll(b) + spell(ones(size%8), size%8)
}

// wrongWidths are those that are not 0 to 64.
var wrongWidths = []int{65, 66, 72, 127, 128, 129, 256, 320, 1 << 16, math.MaxInt32, math.MaxInt32 + 1, math.MaxInt - 1, math.MaxInt, -1, -2, -8, -63, -64, -65, -256, math.MinInt32, math.MinInt, math.MinInt + 1, math.MinInt + 64}

// P6.1: the chapter's example.
func TestExample(t *testing.T) {
	w := NewWriter()
	puts(t, w, 5, 3)
	puts(t, w, 1, 2)
	if got := w.Done(); string(got) != "\xa8" || w.Len() != 5 {
		t.Errorf("Done = %x, Len = %d", got, w.Len())
	}
}

// P6.1: what is put, told by hand.
func TestPutByHand(t *testing.T) {
	w := NewWriter()
	holds(t, w, "")
	puts(t, w, 1, 1)
	holds(t, w, "1")
	puts(t, w, 0, 6)
	holds(t, w, "1000000")
	puts(t, w, 6, 3)
	if got := w.Done(); string(got) != "\x81\x80" {
		t.Errorf("Done = %x", got)
	}
	puts(t, w, 0x12345, 22)
	if got := w.Done(); string(got) != "\x81\x81\x23\x45" {
		t.Errorf("Done = %x", got)
	}
	writes(t, w, []byte{0xC0, 0x0F})
	puts(t, w, 0xF, 4)
	writes(t, w, []byte{0xAB, 0xCD})
	if got := w.Done(); string(got) != "\x81\x81\x23\x45\xc0\x0f\xfa\xbc\xd0" || w.Len() != 68 {
		t.Errorf("Done = %x, Len = %d", got, w.Len())
	}
	w = NewWriter()
	puts(t, w, 0x0123456789ABCDEF, 64)
	if got := w.Done(); string(got) != "\x01\x23\x45\x67\x89\xab\xcd\xef" {
		t.Errorf("Done = %x", got)
	}
}

// P6.1: numbers of every width behind every number of bits: none set, all, the highest alone, the lowest alone and others.
func TestPut(t *testing.T) {
	for before := range 18 {
		for width := range 65 {
			numbers := []uint64{0, ones(width), ones(width) & 0x96C3A55A0FF01234, ones(width) & 1}
			if width > 0 {
				numbers = append(numbers, 1<<(width-1), ones(width-1))
			}
			for _, n := range numbers {
				for _, first := range []uint64{0, ones(before)} {
					w := NewWriter()
					puts(t, w, first, before)
					puts(t, w, n, width)
					holds(t, w, spell(first, before)+spell(n, width))
					puts(t, w, 1, 1)
					holds(t, w, spell(first, before)+spell(n, width)+"1")
				}
			}
		}
	}
}

// P6.1, P6: a width that is not 0 to 64, a number of one bit more than its width; nothing changes.
func TestPutRefuses(t *testing.T) {
	w := NewWriter()
	digits := ""
	for _, c := range []string{"", "101", "01011"} {
		for _, d := range c {
			puts(t, w, uint64(d-'0'), 1)
		}
		digits += c
		for _, width := range wrongWidths {
			for _, n := range []uint64{0, 1, math.MaxUint64} {
				if e := w.Put(n, width); e != api.ErrArg {
					t.Errorf("Put(%x, %d): %v", n, width, e)
				}
			}
		}
		for width := range 64 {
			for _, n := range []uint64{1 << width, 1<<width | 1, ones(width + 1), 1 << 63, math.MaxUint64} {
				if e := w.Put(n, width); e != api.ErrArg {
					t.Errorf("Put(%x, %d): %v", n, width, e)
				}
			}
		}
		holds(t, w, digits)
	}
}

// P6.1, P3: widths of 0 and bytes of none put nothing, at a whole byte or not.
func TestPutOfNothing(t *testing.T) {
	w := NewWriter()
	digits := ""
	for range 20 {
		puts(t, w, 0, 0)
		writes(t, w, nil)
		writes(t, w, []byte{})
		holds(t, w, digits)
		puts(t, w, 1, 1)
		digits += "1"
	}
}

// P6.1: bytes that begin at each of the eight places of a byte, more behind them.
func TestWriteBytes(t *testing.T) {
	for before := range 20 {
		for n := range 12 {
			w := NewWriter()
			puts(t, w, 1, before+1)
			writes(t, w, text(n))
			digits := spell(1, before+1) + spellAll(text(n))
			holds(t, w, digits)
			writes(t, w, []byte{0xFF, 0, 0x81})
			puts(t, w, 5, 4)
			holds(t, w, digits+"111111110000000010000001"+"0101")
		}
	}
}

// P6.1: MaxBits bits exactly, by numbers and by bytes, and one more of each; nothing changes then.
func TestMaxBits(t *testing.T) {
	w, digits := full(t, api.MaxBits)
	fullRefuses(t, w, digits)

	w, digits = NewWriter(), ""
	for i := range api.MaxBits / 64 {
		puts(t, w, uint64(i)*0x9E3779B97F4A7C15, 64)
		digits += spell(uint64(i)*0x9E3779B97F4A7C15, 64)
	}
	fullRefuses(t, w, digits)

	w, digits = NewWriter(), ""
	for i := range api.MaxBits {
		puts(t, w, uint64(i%3%2), 1)
		digits += spell(uint64(i%3%2), 1)
	}
	fullRefuses(t, w, digits)
}

// fullRefuses checks a writer that has no room.
func fullRefuses(t *testing.T, w *Writer, digits string) {
	t.Helper()
	if len(digits) != api.MaxBits {
		t.Fatalf("%d bits", len(digits))
	}
	for width := 1; width <= 64; width++ {
		for _, n := range []uint64{0, 1, ones(width)} {
			if e := w.Put(n, width); e != api.ErrLong {
				t.Fatalf("Put(%x, %d): %v", n, width, e)
			}
		}
	}
	for _, n := range []int{1, 2, 1023, 1024, 1025, 1 << 20} {
		if e := w.Bytes(make([]byte, n)); e != api.ErrLong {
			t.Fatalf("Bytes of %d bytes: %v", n, e)
		}
	}
	puts(t, w, 0, 0)
	writes(t, w, nil)
	holds(t, w, digits)
}

// P6.1: near to MaxBits, each number of bits that is missing: just so many can come, and not one more.
func TestNearMaxBits(t *testing.T) {
	for missing := range 80 {
		w, digits := full(t, api.MaxBits-missing)
		for width := missing + 1; width <= 64; width++ {
			if e := w.Put(ones(width), width); e != api.ErrLong {
				t.Fatalf("Put of %d bits with room for %d: %v", width, missing, e)
			}
		}
		for _, n := range []int{missing/8 + 1, missing/8 + 2, 1024, 1 << 20} {
			if e := w.Bytes(bytes.Repeat([]byte{0xFF}, n)); e != api.ErrLong {
				t.Fatalf("Bytes of %d bytes with room for %d bits: %v", n, missing, e)
			}
		}
		holds(t, w, digits)
		writes(t, w, text(missing/8))
		digits += spellAll(text(missing / 8))
		holds(t, w, digits)
		puts(t, w, ones(missing%8), missing%8)
		fullRefuses(t, w, digits+spell(ones(missing%8), missing%8))

		if missing <= 64 {
			w, digits = full(t, api.MaxBits-missing)
			puts(t, w, ones(missing), missing)
			fullRefuses(t, w, digits+spell(ones(missing), missing))
		}
	}
}

// P6.1, P2: what can't be is told ahead of what is too long.
func TestPutErrorsInOrder(t *testing.T) {
	w, digits := full(t, api.MaxBits)
	for _, width := range wrongWidths {
		if e := w.Put(0, width); e != api.ErrArg {
			t.Errorf("Put(0, %d): %v", width, e)
		}
	}
	for width := range 64 {
		if e := w.Put(1<<width, width); e != api.ErrArg {
			t.Errorf("Put of %d bits in %d: %v", width+1, width, e)
		}
	}
	holds(t, w, digits)
}

// P6.1: Done twice, and more behind a Done, at each place of a byte.
func TestDone(t *testing.T) {
	w := NewWriter()
	digits := ""
	for i := range 40 {
		holds(t, w, digits)
		holds(t, w, digits)
		puts(t, w, uint64(i*i>>1&7), 3)
		digits += spell(uint64(i*i>>1&7), 3)
	}
	w = NewWriter()
	if got := w.Done(); len(got) != 0 {
		t.Errorf("Done of nothing = %x", got)
	}
	writes(t, w, []byte{0xFF})
	if got := w.Done(); string(got) != "\xff" {
		t.Errorf("Done = %x", got)
	}
	puts(t, w, 1, 1)
	if got := w.Done(); string(got) != "\xff\x80" {
		t.Errorf("Done = %x", got)
	}
}

// P6.2: numbers told by hand.
func TestGetByHand(t *testing.T) {
	r := NewReader([]byte{0xA8, 0xFF, 0x01, 0x12, 0x34, 0x56, 0x78, 0x9A, 0xBC, 0xDE, 0xF0})
	gets(t, r, 3, 5)
	gets(t, r, 2, 1)
	gets(t, r, 0, 0)
	gets(t, r, 4, 1)
	gets(t, r, 15, 0x7F01)
	if r.Left() != 64 {
		t.Fatalf("Left = %d", r.Left())
	}
	gets(t, r, 64, 0x123456789ABCDEF0)
	ends(t, r, api.OK)
}

// P6.2: every width from every place on.
func TestGet(t *testing.T) {
	b := text(14)
	digits := spellAll(b)
	for at := range 30 {
		for width := range 65 {
			r := NewReader(b)
			gets(t, r, at, number(digits[:at]))
			gets(t, r, width, number(digits[at:at+width]))
			gets(t, r, 7, number(digits[at+width:at+width+7]))
			if r.Left() != 8*14-at-width-7 {
				t.Fatalf("Left = %d", r.Left())
			}
		}
	}
	for width := range 65 {
		gets(t, NewReader(bytes.Repeat([]byte{0xFF}, 8)), width, ones(width))
		gets(t, NewReader(make([]byte, 8)), width, 0)
	}
}

// number is the number of digits.
func number(digits string) uint64 {
	n := uint64(0)
	for _, d := range digits {
		n = 2*n + uint64(d-'0')
	}
	return n
}

// P6.2, P6: widths that are not 0 to 64, whatever is left.
func TestGetRefusesWidth(t *testing.T) {
	for _, b := range [][]byte{nil, {0xFF}, text(300)} {
		r := NewReader(b)
		for _, width := range wrongWidths {
			getFails(t, r, width, api.ErrArg)
		}
		if len(b) > 0 {
			gets(t, r, 8, uint64(b[0]))
		}
	}
}

// P6.2: a Get of all that is left and of one bit more; nothing is taken then.
func TestGetShort(t *testing.T) {
	for size := range 10 {
		b := text(size)
		digits := spellAll(b)
		for at := 0; at <= 8*size; at++ {
			r := NewReader(b)
			for range at {
				r.Get(1)
			}
			left := 8*size - at
			for width := left + 1; width <= 64; width++ {
				getFails(t, r, width, api.ErrShort)
			}
			if left <= 64 {
				gets(t, r, left, number(digits[at:]))
				getFails(t, r, 1, api.ErrShort)
				getFails(t, r, 64, api.ErrShort)
				readFails(t, r, 1, api.ErrShort)
				gets(t, r, 0, 0)
				reads(t, r, nil)
				ends(t, r, api.OK)
			}
		}
	}
}

// P6.2: bytes from every place on, of all that is left and of one more.
func TestReadBytes(t *testing.T) {
	b := text(14)
	digits := spellAll(b)
	for at := range 8*len(b) + 1 {
		most := (8*len(b) - at) / 8
		for n := range most + 1 {
			r := NewReader(b)
			for range at {
				r.Get(1)
			}
			for more := most + 1; more < most+5; more++ {
				readFails(t, r, more, api.ErrShort)
			}
			readFails(t, r, 1024, api.ErrShort)
			reads(t, r, packed(digits[at:at+8*n]))
			rest := min(r.Left(), 11)
			gets(t, r, rest, number(digits[at+8*n:at+8*n+rest]))
		}
	}
}

// P6.2, P6: Bytes of 0, of MaxBits / 8, of one more and below 0, at a whole byte or not, however much there is.
func TestReadBytesLimits(t *testing.T) {
	wrong := []int{1025, 1026, 2048, 8192, 8193, math.MaxInt32, math.MaxInt / 8, math.MaxInt/8 + 1, math.MaxInt, -1, -2, -1024, -1025, math.MinInt32, math.MinInt / 8, math.MinInt + 1, math.MinInt}
	long := text(3000)
	for at := range 9 {
		digits := spellAll(long[:1026])
		r := NewReader(long)
		gets(t, r, at, number(digits[:at]))
		for _, n := range wrong {
			readFails(t, r, n, api.ErrArg)
		}
		reads(t, r, nil)
		reads(t, r, packed(digits[at:at+api.MaxBits]))
		for _, n := range wrong {
			readFails(t, r, n, api.ErrArg)
		}
	}
	for _, b := range [][]byte{nil, {1}, text(1023)} {
		r := NewReader(b)
		for _, n := range wrong {
			readFails(t, r, n, api.ErrArg)
		}
		readFails(t, r, 1024, api.ErrShort)
		reads(t, r, b)
	}
}

// P6.2: a reader has no limit of its own.
func TestLongReader(t *testing.T) {
	b := text(1 << 16)
	r := NewReader(b)
	if r.Left() != 8<<16 {
		t.Fatalf("Left = %d", r.Left())
	}
	gets(t, r, 4, uint64(b[0]>>4))
	gets(t, r, 4, uint64(b[0]&15))
	reads(t, r, b[1:1025])
	for i := 1025; i < len(b); i++ {
		gets(t, r, 8, uint64(b[i]))
	}
	ends(t, r, api.OK)
}

// P6.2, P3: a reader of no bytes.
func TestReaderOfNothing(t *testing.T) {
	for _, b := range [][]byte{nil, {}} {
		r := NewReader(b)
		if r == nil || r.Left() != 0 {
			t.Fatal("a reader of nothing has something left")
		}
		for range 2 {
			ends(t, r, api.OK)
			gets(t, r, 0, 0)
			reads(t, r, nil)
			getFails(t, r, 1, api.ErrShort)
			getFails(t, r, 64, api.ErrShort)
			readFails(t, r, 1, api.ErrShort)
			readFails(t, r, 1024, api.ErrShort)
		}
	}
}

// P6.2: End with up to 7 bits left, with a 1 at each place of them and with none, whatever stands ahead of them.
func TestEnd(t *testing.T) {
	for left := range 8 {
		for last := range 256 {
			r := NewReader([]byte{0xFF, byte(last)})
			r.Get(16 - left)
			want := api.ErrForm
			if byte(last)&byte(ones(left)) == 0 {
				want = api.OK
			}
			ends(t, r, want)
		}
	}
}

// P6.2: End with 8 bits left, and with more, though all of them are 0.
func TestEndTooEarly(t *testing.T) {
	for _, size := range []int{1, 2, 9, 1024, 4000} {
		r := NewReader(make([]byte, size))
		for r.Left() > 8 {
			ends(t, r, api.ErrForm)
			r.Get(min(r.Left()-8, 61))
		}
		ends(t, r, api.ErrForm)
		gets(t, r, 1, 0)
		ends(t, r, api.OK)
		gets(t, r, 7, 0)
		ends(t, r, api.OK)
	}
	ends(t, NewReader([]byte{1}), api.ErrForm)
	ends(t, NewReader(text(20)), api.ErrForm)
}

// P6.3, P1: of a nil one, and of one that no call made: ErrZero; 0, none. Whatever is asked, and still behind it.
func TestNoCallMadeIt(t *testing.T) {
	for name, w := range map[string]*Writer{"nil": nil, "zero": {}, "new": new(Writer)} {
		for range 2 {
			for _, width := range append([]int{0, 1, 63, 64}, wrongWidths...) {
				for _, n := range []uint64{0, 1, math.MaxUint64} {
					if e := w.Put(n, width); e != api.ErrZero {
						t.Errorf("%s: Put(%x, %d): %v", name, n, width, e)
					}
				}
			}
			for _, b := range [][]byte{nil, {}, {1}, make([]byte, 1024), make([]byte, 1025)} {
				if e := w.Bytes(b); e != api.ErrZero {
					t.Errorf("%s: Bytes of %d bytes: %v", name, len(b), e)
				}
			}
			if w.Len() != 0 || len(w.Done()) != 0 {
				t.Errorf("%s: Len = %d, Done = %x", name, w.Len(), w.Done())
			}
		}
	}
	for name, r := range map[string]*Reader{"nil": nil, "zero": {}, "new": new(Reader)} {
		for range 2 {
			for _, width := range append([]int{0, 1, 63, 64}, wrongWidths...) {
				if n, e := r.Get(width); n != 0 || e != api.ErrZero {
					t.Errorf("%s: Get(%d) = %x, %v", name, width, n, e)
				}
			}
			for _, n := range []int{0, 1, 1024, 1025, -1, math.MaxInt, math.MinInt} {
				if b, e := r.Bytes(n); len(b) != 0 || e != api.ErrZero {
					t.Errorf("%s: Bytes(%d) = %x, %v", name, n, b, e)
				}
			}
			if r.Left() != 0 || r.End() != api.ErrZero {
				t.Errorf("%s: Left = %d, End = %v", name, r.Left(), r.End())
			}
		}
	}
}

// step is a number, or bytes, that are put and got.
type step struct {
	n     uint64
	width int
	b     []byte
}

// roundTrip checks that what is put is got, and that nothing is left behind it.
func roundTrip(t *testing.T, steps []step) {
	t.Helper()
	w := NewWriter()
	digits := ""
	for _, s := range steps {
		puts(t, w, s.n, s.width)
		writes(t, w, s.b)
		digits += spell(s.n, s.width) + spellAll(s.b)
	}
	holds(t, w, digits)
	r := NewReader(w.Done())
	for _, s := range steps {
		gets(t, r, s.width, s.n)
		reads(t, r, s.b)
	}
	ends(t, r, api.OK)
	gets(t, r, r.Left(), 0)
}

// P6.4: numbers of all widths, one behind the other, with bytes between them.
func TestPutIsGot(t *testing.T) {
	for _, pattern := range []uint64{0, math.MaxUint64, 0x96C3A55A0FF01234, 1, 1 << 63} {
		var up, down, between []step
		for width := range 65 {
			s := step{n: pattern & ones(width), width: width}
			up = append(up, s)
			down = append([]step{s}, down...)
			s.b = text(width % 4)
			between = append(between, s)
		}
		roundTrip(t, up)
		roundTrip(t, down)
		roundTrip(t, between)
	}
	for before := range 9 {
		for n := range 40 {
			roundTrip(t, []step{{ones(before), before, text(n)}, {0x5A5, 11, nil}, {0, 0, text(n)}, {1, 1, nil}})
		}
	}
	roundTrip(t, nil)
	roundTrip(t, []step{{0, 0, text(1024)}})
}

// P4: lists that are handed in are neither changed nor kept, nor is what lies behind them.
func TestKeepsNothing(t *testing.T) {
	for before := range 8 {
		whole := text(30)
		b := whole[:10]
		w := NewWriter()
		puts(t, w, 0, before)
		writes(t, w, b)
		puts(t, w, 0x5A, 8)
		writes(t, w, []byte{1, 2, 3})
		r := NewReader(b)
		gets(t, r, before, uint64(b[0])>>(8-before))
		if !bytes.Equal(whole, text(30)) {
			t.Fatalf("what was handed in has become %x", whole)
		}
		clear(whole)
		holds(t, w, spell(0, before)+spellAll(text(10))+"01011010"+"000000010000001000000011")
		digits := spellAll(text(10))
		reads(t, r, packed(digits[before:before+72]))
		gets(t, r, 8-before, number(digits[before+72:]))
	}
}

// P4, P5: answers are new memory, and the same each time, whatever was done with the ones ahead of them.
func TestAnswersAreNewMemory(t *testing.T) {
	for extra := range 9 {
		w := NewWriter()
		writes(t, w, text(10))
		puts(t, w, ones(extra), extra)
		digits := spellAll(text(10)) + spell(ones(extra), extra)
		for range 3 {
			got := w.Done()
			holds(t, w, digits)
			clear(got[:cap(got)])
			holds(t, w, digits)
		}
		first := w.Done()
		kept := slices.Clone(first)
		puts(t, w, 0x7F, 7)
		writes(t, w, text(3))
		if !bytes.Equal(first, kept) {
			t.Fatalf("Done hangs on what was put behind it: %x", first)
		}
		holds(t, w, digits+"1111111"+spellAll(text(3)))

		r := NewReader(text(20))
		r.Get(extra)
		got, _ := r.Bytes(5)
		kept = slices.Clone(got)
		clear(got[:cap(got)])
		all := spellAll(text(20))
		if !bytes.Equal(kept, packed(all[extra:extra+40])) {
			t.Fatalf("Bytes = %x", kept)
		}
		reads(t, r, packed(all[extra+40:extra+80]))
	}
}

// P5: writers and readers know nothing of each other.
func TestApart(t *testing.T) {
	one, other := NewWriter(), NewWriter()
	puts(t, one, 5, 3)
	puts(t, other, 1, 9)
	writes(t, one, []byte{0xFF})
	holds(t, one, "10111111111")
	holds(t, other, "000000001")
	b := text(4)
	r, s := NewReader(b), NewReader(b)
	gets(t, r, 5, uint64(b[0]>>3))
	gets(t, s, 8, uint64(b[0]))
	if r.Left() != 27 || s.Left() != 24 {
		t.Errorf("Left = %d, %d", r.Left(), s.Left())
	}
}

// P6.1, P6.2, P6.4: any row of calls that a fuzzer wants, against digits.
func FuzzAll(f *testing.F) {
	f.Add([]byte{3, 5, 2, 1}, uint64(5))
	f.Add([]byte{64, 255, 65, 128, 200, 7}, uint64(math.MaxUint64))
	f.Add(bytes.Repeat([]byte{64}, 140), uint64(1<<63))
	f.Fuzz(func(t *testing.T, acts []byte, n uint64) {
		w := NewWriter()
		digits := ""
		var steps []step
		for i, c := range acts {
			n = n*6364136223846793005 + uint64(c)
			s := step{n: n >> (c % 64), width: int(c) - 90}
			if c >= 160 {
				s = step{b: text(int(c) % 50 * (i%3 + 1))}
			}
			want := api.OK
			switch {
			case s.width < 0 || s.width > 64 || len(new(big.Int).SetUint64(s.n).Text(2)) > s.width && s.n != 0:
				want = api.ErrArg
			case len(digits)+s.width+8*len(s.b) > api.MaxBits:
				want = api.ErrLong
			}
			got := w.Bytes(s.b)
			if s.b == nil {
				got = w.Put(s.n, s.width)
			}
			if got != want {
				t.Fatalf("Put(%x, %d) or Bytes(%x) with %d bits: %v, want %v", s.n, s.width, s.b, len(digits), got, want)
			}
			if got == api.OK {
				steps = append(steps, s)
				digits += spell(s.n, s.width) + spellAll(s.b)
			}
			holds(t, w, digits)
		}
		roundTrip(t, steps)
		r := NewReader(acts)
		all := spellAll(acts)
		for at := 0; ; {
			n = n*6364136223846793005 + 1442695040888963407
			width := int(n>>58) + 1
			if width > len(all)-at {
				getFails(t, r, width, api.ErrShort)
				break
			}
			gets(t, r, width, number(all[at:at+width]))
			at += width
		}
	})
}
