package crc

import (
	"bytes"
	"encoding/binary"
	"math"
	"math/big"
	"slices"
	"testing"

	"carillon/api"
)

const check = "123456789" // what sums are published of

// text is n bytes without a short period.
func text(n int) []byte {
	b := make([]byte, n)
	for i := range b {
		b[i] = byte(i*i>>3 ^ i*11 ^ i>>8 ^ 0xA5)
	}
	return b
}

// ones is the greatest number of so many bits.
func ones(width int) uint32 {
	return uint32(uint64(1)<<width - 1)
}

// rest is the sum told in another way: as what is left of bytes and start, both moved up, divided by the polynomial and its highest bit.
func rest(b []byte, width int, poly uint32, start uint32) uint32 {
	left := new(big.Int).SetBytes(b)
	left.Lsh(left, uint(width))
	first := new(big.Int).SetUint64(uint64(start))
	left.Xor(left, first.Lsh(first, uint(8*len(b))))
	whole := new(big.Int).SetUint64(1<<width | uint64(poly))
	for left.BitLen() > width {
		left.Xor(left, new(big.Int).Lsh(whole, uint(left.BitLen()-width-1)))
	}
	return uint32(left.Uint64())
}

// turned is b with the bits of a burst, told bit by bit, turned.
func turned(b []byte, at int, bits uint32) []byte {
	out := slices.Clone(b)
	for i := range 32 {
		if place := at + i; place < 8*len(b) && bits&(1<<(31-i)) != 0 {
			out[place/8] ^= 0x80 >> (place % 8)
		}
	}
	return out
}

// sums checks Of where it is no error.
func sums(t *testing.T, b []byte, width int, poly uint32, start uint32, want uint32) {
	t.Helper()
	if got, e := Of(b, width, poly, start); got != want || e != api.OK {
		t.Errorf("Of(%x, %d, %x, %x) = %x, %v, want %x", b[:min(len(b), 20)], width, poly, start, got, e, want)
	}
}

// refuses checks Of where it is ErrArg.
func refuses(t *testing.T, b []byte, width int, poly uint32, start uint32) {
	t.Helper()
	if got, e := Of(b, width, poly, start); got != 0 || e != api.ErrArg {
		t.Errorf("Of(%x, %d, %x, %x) = %x, %v, want %v", b[:min(len(b), 20)], width, poly, start, got, e, api.ErrArg)
	}
}

// P5.1: sums that were published.
func TestPublished(t *testing.T) {
	for _, p := range []struct {
		width             int
		poly, start, want uint32
	}{
		{8, 0x07, 0, 0xF4},
		{8, 0x1D, 0xFF, 0xB4},
		{10, 0x233, 0, 0x199},
		{11, 0x385, 0x1A, 0x5A3},
		{12, 0x80F, 0, 0xF5B},
		{15, 0x4599, 0, 0x059E},
		{16, 0x1021, 0, 0x31C3},
		{16, 0x1021, 0xFFFF, 0x29B1},
		{17, 0x1685B, 0, 0x04F03},
		{21, 0x102899, 0, 0x0ED841},
		{24, 0x5D6DCB, 0xFEDCBA, 0x7979BD},
		{24, 0x5D6DCB, 0xABCDEF, 0x1F23B8},
		{24, 0x864CFB, 0xB704CE, 0x21CF02},
		{31, 0x04C11DB7, 0x7FFFFFFF, 0x0CE9E46C ^ 0x7FFFFFFF},
		{32, 0x04C11DB7, 0xFFFFFFFF, 0x0376E6E7},
		{32, 0x04C11DB7, 0, 0x89A1897F},
	} {
		sums(t, []byte(check), p.width, p.poly, p.start, p.want)
	}
}

// P5.1: Head and Whole are those of FlexRay; DOC.md's third example.
func TestHeadAndWhole(t *testing.T) {
	if got := Head([]byte(check)); got != 0x5A3 {
		t.Errorf("Head = %x", got)
	}
	if got := Whole([]byte(check)); got != 0x7979BD {
		t.Errorf("Whole = %x", got)
	}
	for _, b := range [][]byte{nil, {}} {
		if Head(b) != 0x1A || Whole(b) != 0xFEDCBA {
			t.Errorf("Head, Whole of nothing = %x, %x", Head(b), Whole(b))
		}
	}
	for n := range 300 {
		b := text(n)
		if got, want := Head(b), rest(b, 11, 0x385, 0x1A); got != want {
			t.Errorf("Head of %d bytes = %x, want %x", n, got, want)
		}
		if got, want := Whole(b), rest(b, 24, 0x5D6DCB, 0xFEDCBA); got != want {
			t.Errorf("Whole of %d bytes = %x, want %x", n, got, want)
		}
	}
}

// P5.1: sums told by hand, bit by bit.
func TestByHand(t *testing.T) {
	// The highest bit of the byte meets the sum's, all others only shift what it left: 07 up by seven, with 07 in for each bit that falls out.
	sums(t, []byte{0x80}, 8, 0x07, 0, 0x89)
	// The lowest bit of the byte comes last: nothing is shifted any more.
	sums(t, []byte{0x01}, 8, 0x07, 0, 0x07)
	// A start that is the byte itself: each bit meets its like.
	sums(t, []byte{0xA5}, 8, 0x07, 0xA5, 0)
	sums(t, []byte{0xA5, 0x00}, 8, 0x07, 0xA5, 0)
	// Without a polynomial the start goes up by eight, and only width bits stay.
	sums(t, []byte{0xFF}, 8, 0, 0xFF, 0)
	sums(t, []byte{0x00}, 12, 0, 0xFFF, 0xF00)
	sums(t, []byte{0x5A}, 16, 0, 0x1234, 0x3400)
	sums(t, []byte{0x5A}, 31, 0, 0x7FFFFFFF, 0x7FFFFF00)
	sums(t, []byte{0x5A}, 32, 0, 0xFFFFFFFF, 0xFFFFFF00)
	sums(t, []byte{0, 0, 0, 0}, 32, 0, 0xFFFFFFFF, 0)
	// One bit of the start that reaches the top with the byte's last bit.
	sums(t, []byte{0x00}, 16, 0x1021, 0x0100, 0x1021)
	sums(t, []byte{0x01}, 16, 0x1021, 0x0100, 0)
	sums(t, []byte{0x01}, 32, 0x04C11DB7, 0, 0x04C11DB7)
}

// P5.1: every width, polynomials and starts of no bit, of one and of all, bytes of all kinds of lengths, shorter than a sum, too.
func TestOf(t *testing.T) {
	for width := 8; width <= 32; width++ {
		high := uint32(1) << (width - 1)
		for _, poly := range []uint32{0, 1, high, high | 1, ones(width), ones(width) & 0x5D6DCB, ones(width) & 0x385} {
			for _, start := range []uint32{0, 1, high, ones(width), ones(width) & 0x96C3A55A} {
				for _, n := range []int{0, 1, 2, 3, 4, 5, 9, 33} {
					sums(t, text(n), width, poly, start, rest(text(n), width, poly, start))
				}
				for _, b := range [][]byte{{0}, {0x80}, {1}, {0xFF}, {0xFF, 0xFF, 0xFF, 0xFF, 0xFF}, make([]byte, 7)} {
					sums(t, b, width, poly, start, rest(b, width, poly, start))
				}
			}
		}
	}
}

// P5.1, P3: of no bytes the sum is its start, nil or empty.
func TestOfNothing(t *testing.T) {
	for width := 8; width <= 32; width++ {
		for _, start := range []uint32{0, 1, ones(width - 1), ones(width)} {
			sums(t, nil, width, ones(width), start, start)
			sums(t, []byte{}, width, ones(width), start, start)
		}
	}
}

// P5.1: of one byte, all of them.
func TestOfOneByte(t *testing.T) {
	for c := range 256 {
		b := []byte{byte(c)}
		sums(t, b, 8, 0xFF, 0xFF, rest(b, 8, 0xFF, 0xFF))
		sums(t, b, 11, 0x385, 0x1A, rest(b, 11, 0x385, 0x1A))
		sums(t, b, 32, 0x04C11DB7, 1, rest(b, 32, 0x04C11DB7, 1))
	}
}

// P5.1: bytes far beyond any frame.
func TestOfMany(t *testing.T) {
	b := bytes.Repeat(text(997), 300)
	// The sum of a beginning is the start of the rest, so that a long sum is told by short ones.
	want := uint32(0xFEDCBA)
	for i := 0; i < len(b); i += 100 {
		want = rest(b[i:min(i+100, len(b))], 24, 0x5D6DCB, want)
	}
	if got := Whole(b); got != want {
		t.Errorf("Whole = %x, want %x", got, want)
	}
}

// P5.1, P6: widths that are not 8 to 32, whatever else is right or wrong.
func TestOfRefusesWidth(t *testing.T) {
	for _, width := range []int{7, 33, 0, 1, 6, -1, -8, -32, 34, 40, 63, 64, 65, 128, 256 + 8, math.MinInt32, math.MaxInt32, math.MinInt, math.MinInt + 8, math.MaxInt} {
		for _, poly := range []uint32{0, 1, 0x7F, 0xFF, math.MaxUint32} {
			for _, start := range []uint32{0, 1, math.MaxUint32} {
				refuses(t, []byte(check), width, poly, start)
				refuses(t, nil, width, poly, start)
			}
		}
	}
}

// P5.1: a polynomial, a start of all bits of its width, and of one bit more, alone and with others.
func TestOfRefusesMoreBits(t *testing.T) {
	for width := 8; width < 32; width++ {
		sums(t, text(9), width, ones(width), ones(width), rest(text(9), width, ones(width), ones(width)))
		for _, more := range []uint32{1 << width, 1<<width | 1, ones(width + 1), 1 << 31, math.MaxUint32} {
			for _, b := range [][]byte{nil, text(9)} {
				refuses(t, b, width, more, 0)
				refuses(t, b, width, more, ones(width))
				refuses(t, b, width, 0, more)
				refuses(t, b, width, ones(width), more)
				refuses(t, b, width, more, more)
			}
		}
	}
	sums(t, text(9), 32, math.MaxUint32, math.MaxUint32, rest(text(9), 32, math.MaxUint32, math.MaxUint32))
}

// burst checks Burst.
func burst(t *testing.T, n int, at int, bits uint32, want []byte) {
	t.Helper()
	if got := Burst(n, at, bits); !bytes.Equal(got, want) {
		t.Errorf("Burst(%d, %d, %x) = %x, want %x", n, at, bits, got, want)
	}
}

// P5.2: bursts told by hand.
func TestBurstByHand(t *testing.T) {
	burst(t, 4, 0, 0x12345678, []byte{0x12, 0x34, 0x56, 0x78})
	burst(t, 6, 8, 0x12345678, []byte{0, 0x12, 0x34, 0x56, 0x78, 0})
	burst(t, 6, 4, 0x12345678, []byte{0x01, 0x23, 0x45, 0x67, 0x80, 0})
	burst(t, 5, 1, 0xFFFFFFFF, []byte{0x7F, 0xFF, 0xFF, 0xFF, 0x80})
	burst(t, 3, 6, 0xC0000001, []byte{0x03, 0, 0})
	burst(t, 3, 0, 0x12345678, []byte{0x12, 0x34, 0x56})
	burst(t, 2, 12, 0xABCDEF01, []byte{0, 0x0A})
	burst(t, 1, 0, 0x80000000, []byte{0x80})
	burst(t, 1, 7, 0xFFFFFFFF, []byte{0x01})
	burst(t, 1, 7, 0x7FFFFFFF, []byte{0})
	burst(t, 1, 8, 0xFFFFFFFF, []byte{0})
	burst(t, 5, 8, 1, []byte{0, 0, 0, 0, 1})
	burst(t, 5, 9, 1, make([]byte, 5))
}

// P5.2: no bit, the highest alone, the lowest alone, all of them and others, at every place up to far beyond the end.
func TestBurst(t *testing.T) {
	for _, bits := range []uint32{0, 1, 1 << 31, math.MaxUint32, 1<<31 | 1, 0x96C3A55A, 0xFFFFFF00} {
		for n := range 12 {
			for at := range 8*n + 70 {
				burst(t, n, at, bits, turned(make([]byte, n), at, bits))
			}
		}
		for _, at := range []int{0, 1, 8*4096 - 33, 8*4096 - 32, 8*4096 - 31, 8*4096 - 1, 8 * 4096, 8*4096 + 1} {
			burst(t, 4096, at, bits, turned(make([]byte, 4096), at, bits))
			burst(t, 4095, at, bits, turned(make([]byte, 4095), at, bits))
		}
	}
}

// P5.2, P6: n of 0 and of 4096 are told, below and above there are none.
func TestBurstLimits(t *testing.T) {
	for _, at := range []int{0, 1, 7, 8, 100, math.MaxInt} {
		burst(t, 0, at, math.MaxUint32, nil)
		if got := Burst(4096, at, 0); len(got) != 4096 {
			t.Errorf("Burst(4096, %d, 0) has %d bytes", at, len(got))
		}
		for _, n := range []int{-1, -8, -4096, math.MinInt32, math.MinInt, math.MinInt + 1, 4097, 4098, 8192, math.MaxInt32, math.MaxInt/8 + 1, math.MaxInt} {
			burst(t, n, at, math.MaxUint32, nil)
			burst(t, n, -1-at, math.MaxUint32, nil)
		}
	}
}

// P5.2, P6: a place below 0, or beyond the end, is no bit of the bytes: there are n of them, and no bit is set.
func TestBurstPlaces(t *testing.T) {
	for _, at := range []int{-1, -2, -7, -8, -9, -31, -32, -33, -40, math.MinInt32, math.MinInt, math.MinInt + 31} {
		for _, n := range []int{0, 1, 2, 4, 5, 4095, 4096} {
			for _, bits := range []uint32{0, 1, 1 << 31, 0x96C3A55A, math.MaxUint32} {
				burst(t, n, at, bits, make([]byte, n))
			}
		}
	}
	for _, at := range []int{40, 41, 71, 72, 1000, math.MaxInt32, math.MaxInt - 32, math.MaxInt - 31, math.MaxInt - 1, math.MaxInt} {
		burst(t, 5, at, math.MaxUint32, make([]byte, 5))
	}
}

// P5.2: Fix is the bytes and Whole in three bytes behind them, the highest first, those that are 0, too.
func TestFix(t *testing.T) {
	if got := Fix([]byte(check)); string(got) != check+"\x79\x79\xbd" {
		t.Errorf("Fix = %x", got)
	}
	for _, b := range [][]byte{nil, {}} {
		if got := Fix(b); string(got) != "\xfe\xdc\xba" {
			t.Errorf("Fix of nothing = %x", got)
		}
	}
	for n := range 300 {
		b := text(n)
		whole := rest(b, 24, 0x5D6DCB, 0xFEDCBA)
		if got, want := Fix(b), binary.BigEndian.AppendUint32(nil, whole)[1:]; !bytes.Equal(got, slices.Concat(b, want)) {
			t.Errorf("Fix of %d bytes = %x, want %x behind", n, got, want)
		}
	}
	// Fixed bytes have a sum of 0.
	if got := Fix(Fix([]byte(check))); string(got[9:]) != "\x79\x79\xbd\x00\x00\x00" {
		t.Errorf("Fix of fixed bytes = %x", got)
	}
}

// P5.2: Good of none, one and two bytes, and of three, of which one list alone is good.
func TestGoodOfFew(t *testing.T) {
	for _, b := range [][]byte{nil, {}, {0}, {0xBA}, {0xFE}, {0, 0}, {0xFE, 0xDC}, {0xDC, 0xBA}, {0, 0, 0}, {0xBA, 0xDC, 0xFE}, {0xFE, 0xDC, 0xBB}, {0xFF, 0xDC, 0xBA}, {0xFE, 0xDD, 0xBA}} {
		if Good(b) {
			t.Errorf("Good(%x)", b)
		}
	}
	if !Good([]byte{0xFE, 0xDC, 0xBA}) {
		t.Error("the sum of nothing is not good")
	}
}

// P5.2: Good asks for all three bytes, at the end, in their order.
func TestGoodAsksForAll(t *testing.T) {
	for n := range 40 {
		b := text(n)
		good := Fix(b)
		for i := range good {
			for change := 1; change < 256; change++ {
				bad := slices.Clone(good)
				bad[i] ^= byte(change)
				if Good(bad) {
					t.Errorf("Good(%x), though the byte at %d is another one", bad, i)
				}
			}
		}
		if turned := slices.Concat(b, []byte{good[n+2], good[n+1], good[n]}); good[n] != good[n+2] && Good(turned) {
			t.Errorf("Good(%x), the lowest byte first", turned)
		}
		if Good(slices.Concat(good[n:], b)) && n > 0 {
			t.Errorf("Good of %x, the sum ahead", b)
		}
	}
	good := Fix([]byte(check))
	for cut := range good {
		if Good(good[:cut]) {
			t.Errorf("Good(%x), cut short", good[:cut])
		}
	}
	if Good(append(good, 0xA5)) {
		t.Error("Good of fixed bytes and one more")
	}
}

// P5.3 and the chapter's example: fixed bytes are good, fixed twice, too.
func TestFixedIsGood(t *testing.T) {
	for n := range 300 {
		for _, b := range [][]byte{text(n), make([]byte, n), bytes.Repeat([]byte{0xFF}, n)} {
			if fixed := Fix(b); !Good(fixed) || !Good(Fix(fixed)) {
				t.Errorf("Fix(%x) is not good", b)
			}
		}
	}
	if !Good(Fix(nil)) || !Good(Fix(bytes.Repeat(text(97), 1000))) {
		t.Error("Fix of nothing, or of much, is not good")
	}
}

// P5.3: every burst of up to 24 bits at all, at the beginning, across both and at the end of four bytes.
func TestEveryBurst(t *testing.T) {
	good := Fix([]byte{0xC4})
	whole := binary.BigEndian.Uint32(good)
	bad := make([]byte, len(good))
	for _, at := range []int{0, 5, 8} {
		for bits := uint32(1); bits < 1<<24; bits++ {
			binary.BigEndian.PutUint32(bad, whole^bits<<8>>at)
			if Good(bad) {
				t.Fatalf("Good(%x), though %x was turned at %d", bad, bits, at)
			}
		}
	}
}

// P5.3: bursts of every length of up to 24 bits at every place of longer bytes, by xor with Burst.
func TestBurstsAnywhere(t *testing.T) {
	for _, n := range []int{0, 1, 18, 93} {
		good := Fix(text(n))
		for at := range 8 * len(good) {
			for length := 1; length <= 24; length++ {
				first := uint32(1) << 31
				last := first >> (length - 1)
				for _, middle := range []uint32{0, math.MaxUint32, 0x96C3A55A, 0x5D6DCB00} {
					bits := first | last | middle & ^(last-1)
					bad := turned(good, at, bits)
					by := Burst(len(good), at, bits)
					for i := range by {
						by[i] ^= good[i]
					}
					if !bytes.Equal(by, bad) {
						t.Fatalf("Burst(%d, %d, %x) turns otherwise", len(good), at, bits)
					}
					if Good(bad) {
						t.Fatalf("Good(%x), though %x was turned at %d", bad, bits, at)
					}
				}
			}
		}
	}
}

// P5.3: what it tells is no more than what holds: a burst of 25 bits that is the polynomial itself leaves good bytes good.
func TestLongerBurst(t *testing.T) {
	good := Fix(text(18))
	for at := range 8*len(good) - 24 {
		if !Good(turned(good, at, 0x15D6DCB<<7)) {
			t.Errorf("the polynomial at %d is not what is divided by", at)
		}
	}
}

// P4: what is handed in is not changed, nor what lies behind it.
func TestChangesNothing(t *testing.T) {
	whole := text(100)
	b := whole[:20]
	Of(b, 32, 0x04C11DB7, 1)
	Head(b)
	Whole(b)
	Fix(b)
	Good(b)
	if !bytes.Equal(whole, text(100)) {
		t.Errorf("what was handed in has become %x", whole)
	}
	good := slices.Concat(Fix(text(20)), text(10))
	copied := slices.Clone(good)
	if !Good(good[:23]) || !bytes.Equal(good, copied) {
		t.Errorf("what was handed in has become %x", good)
	}
}

// P4, P5: answers are new memory, and the same each time, whatever was done with the ones ahead of them.
func TestAnswersAreNewMemory(t *testing.T) {
	room := make([]byte, 20, 100)
	copy(room, text(20))
	want := slices.Concat(text(20), Fix(text(20))[20:])
	for range 3 {
		fixed := Fix(room)
		if !bytes.Equal(fixed, want) {
			t.Errorf("Fix = %x, want %x", fixed, want)
		}
		clear(fixed[:cap(fixed)])
		if !bytes.Equal(room, text(20)) {
			t.Error("Fix answers what it was given")
		}
		burst := Burst(4, 0, 0x12345678)
		if string(burst) != "\x12\x34\x56\x78" {
			t.Errorf("Burst = %x", burst)
		}
		clear(burst[:cap(burst)])
	}
	fixed := Fix(room)
	clear(room)
	if !bytes.Equal(fixed, want) {
		t.Error("Fix hangs on what it was given")
	}
}

// P5.1 to P5.3: any bytes, widths, numbers and places that a fuzzer wants.
func FuzzAll(f *testing.F) {
	f.Add([]byte(check), 16, uint32(0x1021), uint32(0xFFFF), 5)
	f.Add([]byte{}, 7, uint32(1), uint32(0), -1)
	f.Add([]byte{0x80}, 32, uint32(math.MaxUint32), uint32(math.MaxUint32), math.MaxInt)
	f.Fuzz(func(t *testing.T, b []byte, width int, poly uint32, start uint32, at int) {
		if width < 8 || width > 32 || uint64(poly)>>width != 0 || uint64(start)>>width != 0 {
			refuses(t, b, width, poly, start)
		} else {
			sums(t, b, width, poly, start, rest(b, width, poly, start))
		}
		good := Fix(b)
		if !Good(good) || !bytes.Equal(good[:len(b)], b) {
			t.Errorf("Fix(%x) = %x", b, good)
		}
		if at < 0 && len(b) <= 4096 {
			burst(t, len(b), at, poly, make([]byte, len(b)))
		}
		if at < 0 || at >= 8*len(good) {
			return
		}
		bits := poly << 8
		if bad := turned(good, at, bits); !bytes.Equal(bad, good) && Good(bad) {
			t.Errorf("Good(%x), though %x was turned at %d", bad, bits, at)
		}
		if len(b) <= 4096 {
			burst(t, len(b), at, poly, turned(make([]byte, len(b)), at, poly))
		}
	})
}
