package frame

import (
	"bytes"
	"encoding/hex"
	"fmt"
	"math"
	"reflect"
	"slices"
	"strings"
	"testing"

	"carillon/api"
	"carillon/crc"
)

// text is n bytes that count up from the first.
func text(n int, first byte) []byte {
	b := make([]byte, n)
	for i := range b {
		b[i] = first + byte(i)
	}
	return b
}

func data() api.Frame {
	return api.Frame{Kind: api.FData, From: 3, Epoch: 0x1234, Round: 0xABCDE, View: 0x87, Index: 0x100, Key: text(16, 0x10), Body: []byte("hi"), Tag: text(8, 0xA1)}
}

func ping() api.Frame {
	return api.Frame{Kind: api.FPing, From: 1, To: 2, Nonce: 0x0102030405060708, Tag: text(8, 0xA1)}
}

func pong() api.Frame {
	return api.Frame{Kind: api.FPong, From: 7, To: 0, Nonce: 0xF1F2F3F4F5F6F7F8, Stamp: 1 << 40, Epoch: 0xFFFF, Start: 1 << 20, Index: 0x42, Key: text(16, 0x10), Tag: text(8, 0xA1)}
}

// each is a frame of each kind.
func each() []api.Frame {
	return []api.Frame{data(), ping(), pong()}
}

// copied is a frame that shares no memory with f.
func copied(f api.Frame) api.Frame {
	f.Key, f.Body, f.Tag = slices.Clone(f.Key), slices.Clone(f.Body), slices.Clone(f.Tag)
	return f
}

// alike tells in another way whether two frames are the same: as texts, in which nil and empty lists are no different.
func alike(f api.Frame, g api.Frame) bool {
	return fmt.Sprintf("%v", f) == fmt.Sprintf("%v", g)
}

// spell is bits told in another way: as digits.
func spell(n uint64, width int) string {
	return fmt.Sprintf("%0*b", width, n)
}

// spellAll is the digits of all bytes.
func spellAll(b []byte) string {
	s := ""
	for _, c := range b {
		s += spell(uint64(c), 8)
	}
	return s
}

// coreDigits are the bits of all fields but Tag, as the chapter's table has them. Fields need not be right, but must have room.
func coreDigits(f api.Frame) string {
	s := spell(uint64(f.Kind), 4) + spell(uint64(f.From), 4)
	switch f.Kind {
	case api.FData:
		s += spell(uint64(f.Epoch), 16) + spell(uint64(f.Round), 24) + spell(uint64(f.View), 8) + spell(uint64(f.Index), 16)
		s += spellAll(f.Key) + spell(uint64(len(f.Body)), 5) + spellAll(f.Body)
	case api.FPing:
		s += spell(uint64(f.To), 4) + spell(f.Nonce, 64)
	case api.FPong:
		s += spell(uint64(f.To), 4) + spell(f.Nonce, 64) + spell(uint64(f.Stamp), 48)
		s += spell(uint64(f.Epoch), 16) + spell(uint64(f.Start), 24) + spell(uint64(f.Index), 16) + spellAll(f.Key)
	}
	return s
}

func digits(f api.Frame) string {
	return coreDigits(f) + spellAll(f.Tag)
}

// packed is the bytes of digits, the last of them filled up with 0.
func packed(digits string) []byte {
	b := make([]byte, (len(digits)+7)/8)
	for i, d := range digits {
		if d == '1' {
			b[i/8] |= 0x80 >> (i % 8)
		}
	}
	return b
}

// takes checks all calls of a frame that is right.
func takes(t *testing.T, f api.Frame) {
	t.Helper()
	was := copied(f)
	if e := Check(f); e != api.OK {
		t.Errorf("Check(%v): %d", f, e)
	}
	b, e := Put(f)
	if want := crc.Fix(packed(digits(f))); !bytes.Equal(b, want) || e != api.OK {
		t.Errorf("Put(%v): %x, %d, want %x", f, b, e, want)
	}
	cores(t, f)
	if !alike(f, was) {
		t.Errorf("%v has become %v", was, f)
	}
	gives(t, b, f)
}

// cores checks Core of a frame that is right but for its tag.
func cores(t *testing.T, f api.Frame) {
	t.Helper()
	b, e := Core(f)
	if want := packed(coreDigits(f)); !bytes.Equal(b, want) || e != api.OK {
		t.Errorf("Core(%v): %x, %d, want %x", f, b, e, want)
	}
}

// gives checks Get where it is no error, and that Put undoes it.
func gives(t *testing.T, b []byte, want api.Frame) {
	t.Helper()
	was := slices.Clone(b)
	f, e := Get(b)
	if !alike(f, want) || !Same(f, want) || e != api.OK {
		t.Errorf("Get(%x): %v, %d, want %v", b, f, e, want)
	}
	if !bytes.Equal(b, was) {
		t.Errorf("%x has become %x", was, b)
	}
	if back, e := Put(f); !bytes.Equal(back, was) || e != api.OK {
		t.Errorf("Put of Get(%x): %x, %d", was, back, e)
	}
}

// refuses checks Check and Put of a frame that is not right, and Core, if that is not for its tag alone.
func refuses(t *testing.T, f api.Frame) {
	t.Helper()
	refusesTag(t, f)
	if b, e := Core(f); len(b) != 0 || e != api.ErrArg {
		t.Errorf("Core(%v): %x, %d", f, b, e)
	}
}

func refusesTag(t *testing.T, f api.Frame) {
	t.Helper()
	was := copied(f)
	if e := Check(f); e != api.ErrArg {
		t.Errorf("Check(%v): %d", f, e)
	}
	if b, e := Put(f); len(b) != 0 || e != api.ErrArg {
		t.Errorf("Put(%v): %x, %d", f, b, e)
	}
	if !alike(f, was) {
		t.Errorf("%v has become %v", was, f)
	}
}

// fails checks that Get tells an error, and nothing beside it.
func fails(t *testing.T, b []byte, want api.Errno) {
	t.Helper()
	was := slices.Clone(b)
	if f, e := Get(b); !alike(f, api.Frame{}) || e != want {
		t.Errorf("Get(%x): %v, %d, want %d", b, f, e, want)
	}
	if !bytes.Equal(b, was) {
		t.Errorf("%x has become %x", was, b)
	}
}

// field is a number of a frame: which kinds have it, how great it may be, how many bits it has.
type field struct {
	name  string
	kinds []int
	most  int64
	width int
	set   func(f *api.Frame, n int64)
}

func fields() []field {
	all := []int{api.FData, api.FPing, api.FPong}
	asked := []int{api.FPing, api.FPong}
	told := []int{api.FData, api.FPong}
	return []field{
		{"From", all, 7, 4, func(f *api.Frame, n int64) { f.From = int(n) }},
		{"To", asked, 7, 4, func(f *api.Frame, n int64) { f.To = int(n) }},
		{"Epoch", told, 65535, 16, func(f *api.Frame, n int64) { f.Epoch = int(n) }},
		{"Start", []int{api.FPong}, 1 << 20, 24, func(f *api.Frame, n int64) { f.Start = int(n) }},
		{"Round", []int{api.FData}, 1 << 20, 24, func(f *api.Frame, n int64) { f.Round = int(n) }},
		{"Stamp", []int{api.FPong}, 1 << 40, 48, func(f *api.Frame, n int64) { f.Stamp = n }},
		{"View", []int{api.FData}, 255, 8, func(f *api.Frame, n int64) { f.View = int(n) }},
		{"Index", told, 256, 16, func(f *api.Frame, n int64) { f.Index = int(n) }},
	}
}

// apart gives a ping or pong another To, or From, if both are the same: the one that was not set.
func apart(f *api.Frame, name string) {
	if f.Kind == api.FData || f.From != f.To {
		return
	}
	if name == "From" {
		f.To = (f.From + 1) % 8
	} else {
		f.From = (f.To + 1) % 8
	}
}

// P9.1: the chapter's example.
func TestExample(t *testing.T) {
	b, e := Put(ping())
	if len(b) != 18+3 || e != api.OK {
		t.Errorf("Put: %x, %d", b, e)
	}
	if n := len(digits(ping())); n != 140 {
		t.Errorf("%d bits", n)
	}
	takes(t, ping())
}

// P9.1, P9.2: frames of each kind, their bytes and sums written out: worked out apart from this program.
func TestWrittenOut(t *testing.T) {
	none := api.Frame{Kind: api.FData, Key: make([]byte, 16), Tag: text(8, 0xA1)}
	for _, c := range []struct {
		f    api.Frame
		core string
		all  string
	}{
		{ping(), "21201020304050607080", "2120102030405060708a1a2a3a4a5a6a7a80" + "d3e743"},
		{data(), "1312340abcde870100101112131415161718191a1b1c1d1e1f134348", "1312340abcde870100101112131415161718191a1b1c1d1e1f13434d0d151d252d353d40" + "b2746c"},
		{none, "10" + strings.Repeat("00", 25), "10" + strings.Repeat("00", 24) + "050d151d252d353d40" + "84690d"},
		{pong(), "370f1f2f3f4f5f6f7f8010000000000ffff1000000042101112131415161718191a1b1c1d1e1f0", "370f1f2f3f4f5f6f7f8010000000000ffff1000000042101112131415161718191a1b1c1d1e1fa1a2a3a4a5a6a7a80" + "254578"},
	} {
		if b, e := Core(c.f); hex.EncodeToString(b) != c.core || e != api.OK {
			t.Errorf("Core(%v): %x, %d, want %s", c.f, b, e, c.core)
		}
		b, e := Put(c.f)
		if hex.EncodeToString(b) != c.all || e != api.OK {
			t.Errorf("Put(%v): %x, %d, want %s", c.f, b, e, c.all)
		}
		takes(t, c.f)
	}
}

// P9.1, P9.3: bodies of every length that is right, of one more and of many more.
func TestBody(t *testing.T) {
	for n := range 17 {
		f := data()
		f.Body = text(n, 0x81)
		takes(t, f)
		if b, _ := Put(f); len(b) != 34+n+3 {
			t.Errorf("%d bytes of Body: %d", n, len(b))
		}
		f.Body = make([]byte, n)
		takes(t, f)
	}
	for _, n := range []int{17, 18, 31, 32, 33, 48, 255, 256, 1024, 1 << 14, 1 << 20} {
		f := data()
		f.Body = make([]byte, n)
		refuses(t, f)
	}
}

// P9.1, P6: each number at the least and the greatest that is right, and beyond: one, a bit more than it has, whole turns more.
func TestNumbers(t *testing.T) {
	for _, c := range fields() {
		for _, f := range each() {
			if !slices.Contains(c.kinds, f.Kind) {
				continue
			}
			for _, n := range []int64{0, 1, c.most / 2, c.most - 1, c.most} {
				c.set(&f, n)
				apart(&f, c.name)
				takes(t, f)
			}
			top := int64(1) << c.width
			for _, n := range []int64{-1, -2, -c.most, -top, 1 - top, c.most + 1, c.most + 2, top, top + 1, top + c.most, 1 << 31, 1 << 32, 1<<32 + 1, 1<<48 + 1, 1 << 62, math.MaxInt64, math.MinInt32, math.MinInt64, math.MinInt64 + 1} {
				if n >= 0 && n <= c.most {
					continue
				}
				c.set(&f, n)
				apart(&f, c.name)
				refuses(t, f)
			}
		}
	}
}

// P9.1: each nonce is right.
func TestNonce(t *testing.T) {
	for _, f := range []api.Frame{ping(), pong()} {
		for _, n := range []uint64{0, 1, math.MaxInt64, 1 << 63, math.MaxUint64 - 1, math.MaxUint64} {
			f.Nonce = n
			takes(t, f)
		}
	}
}

// P9.1: keys and tags that are too short, too long, none.
func TestLists(t *testing.T) {
	for n := range 40 {
		for _, f := range []api.Frame{data(), pong()} {
			f.Key = text(n, 1)
			if n == 16 {
				takes(t, f)
			} else {
				refuses(t, f)
			}
		}
		for _, f := range each() {
			f.Tag = text(n, 1)
			if n == 8 {
				takes(t, f)
			} else {
				refusesTag(t, f)
			}
		}
	}
	for _, f := range each() {
		f.Tag = make([]byte, 1<<20)
		refusesTag(t, f)
		f.Tag, f.Key = text(8, 1), make([]byte, 1<<20)
		refuses(t, f)
	}
}

// P9.1: Core is the same whatever Tag is, and hangs on every other field.
func TestCoreWithoutTag(t *testing.T) {
	for _, f := range each() {
		want, _ := Core(f)
		for _, tag := range [][]byte{nil, {}, {0}, text(7, 1), make([]byte, 8), text(9, 1), text(64, 1), make([]byte, 1<<20)} {
			f.Tag = tag
			cores(t, f)
			if b, e := Core(f); !bytes.Equal(b, want) || e != api.OK {
				t.Errorf("Core with %d bytes of Tag: %x, %d, want %x", len(tag), b, e, want)
			}
		}
	}
}

// P9.1: a field that the kind does not have is zero, empty, and nothing else.
func TestOtherFields(t *testing.T) {
	for _, c := range fields() {
		for kind, f := range each() {
			if slices.Contains(c.kinds, f.Kind) {
				continue
			}
			c.set(&f, 0)
			takes(t, f)
			for _, n := range []int64{1, 2, -1, c.most, c.most + 1, math.MaxInt64, math.MinInt64} {
				c.set(&f, n)
				refuses(t, f)
			}
			f = each()[kind]
			c.set(&f, int64(f.From))
			refuses(t, f)
		}
	}
	for _, n := range []uint64{1, 1 << 63, math.MaxUint64} {
		f := data()
		f.Nonce = n
		refuses(t, f)
	}
	for _, n := range []int{1, 15, 16, 17, 32} {
		f := ping()
		f.Key = make([]byte, n)
		refuses(t, f)
		for _, f := range []api.Frame{ping(), pong()} {
			f.Body = make([]byte, n)
			refuses(t, f)
		}
	}
	for _, empty := range [][]byte{nil, {}, text(9, 1)[:0]} {
		f, g, h := ping(), pong(), data()
		f.Key, f.Body, g.Body, h.Body = empty, empty, empty, empty
		takes(t, f)
		takes(t, g)
		takes(t, h)
	}
}

// P9.1, P1: kinds that are none of the three, whatever stands beside them.
func TestKinds(t *testing.T) {
	refuses(t, api.Frame{})
	for _, kind := range []int{0, 4, 5, 7, 8, 15, 16, 17, 18, 19, 255, 256 + 1, 1<<32 + 1, -1, -2, -3, -15, math.MaxInt, math.MinInt, math.MinInt + 1} {
		refuses(t, api.Frame{Kind: kind})
		refuses(t, api.Frame{Kind: kind, Tag: text(8, 1)})
		refuses(t, api.Frame{Kind: kind, Key: text(16, 1), Tag: text(8, 1)})
		refuses(t, api.Frame{Kind: kind, From: 1, To: 2, Tag: text(8, 1)})
		for _, f := range each() {
			f.Kind = kind
			refuses(t, f)
		}
	}
	for _, f := range each() {
		for _, g := range each() {
			if f.Kind != g.Kind {
				g.Kind = f.Kind
				refuses(t, g)
			}
		}
	}
}

// P9.1: all pairs of nodes: a ping and a pong are right just if both are nodes that are not the same, data are of any node, to none.
func TestNodes(t *testing.T) {
	for from := -2; from < 18; from++ {
		node := from >= 0 && from < 8
		for to := -2; to < 18; to++ {
			for _, f := range each() {
				f.From, f.To = from, to
				if node && (f.Kind == api.FData && to == 0 || f.Kind != api.FData && to >= 0 && to < 8 && to != from) {
					takes(t, f)
				} else {
					refuses(t, f)
				}
			}
		}
	}
}

// P9.1, P2: several faults at once are one error, and nothing beside it.
func TestSeveralFaults(t *testing.T) {
	for _, f := range each() {
		f.From, f.To, f.Epoch, f.Start, f.Round, f.Stamp, f.View, f.Index = -1, 8, 65536, -1, 1<<20+1, -1, 256, 257
		f.Key, f.Body, f.Tag = text(17, 1), text(17, 1), text(7, 1)
		refuses(t, f)
		f.Kind = 9
		refuses(t, f)
	}
	f := ping()
	f.From, f.Tag = f.To, nil
	refuses(t, f)
	f = data()
	f.Key, f.Tag = nil, nil
	refuses(t, f)
	f = pong()
	f.Stamp, f.Body, f.Tag = math.MinInt64, text(1, 1), text(9, 1)
	refuses(t, f)
	// Two faults that would make up for each other if both lists were one.
	f = data()
	f.Key, f.Tag = text(8, 1), text(16, 1)
	refuses(t, f)
	f = data()
	f.Key, f.Body = text(17, 1), text(1, 1)
	refuses(t, f)
}

// P9.2: bytes that are too few for a sum.
func TestGetShort(t *testing.T) {
	fails(t, nil, api.ErrShort)
	fails(t, []byte{}, api.ErrShort)
	for _, f := range each() {
		b, _ := Put(f)
		for n := range 3 {
			fails(t, b[:n], api.ErrShort)
			fails(t, b[len(b)-n:], api.ErrShort)
		}
	}
	for _, b := range [][]byte{{0}, {255}, {0, 0}, {255, 255}, {0xFE, 0xDC}} {
		fails(t, b, api.ErrShort)
	}
}

// P9.2: three bytes are a sum of nothing, right or wrong.
func TestGetOfThree(t *testing.T) {
	fails(t, crc.Fix(nil), api.ErrForm)
	fails(t, []byte{0xFE, 0xDC, 0xBA}, api.ErrForm)
	fails(t, []byte{0, 0, 0}, api.ErrSum)
	fails(t, []byte{0xFE, 0xDC, 0xBB}, api.ErrSum)
	fails(t, []byte{0xBA, 0xDC, 0xFE}, api.ErrSum)
}

// P9.2: bytes with one bit turned, or with two side by side, and bytes of which one is missing or doubled.
func TestGetSum(t *testing.T) {
	for _, f := range each() {
		b, _ := Put(f)
		for i := range 8 * len(b) {
			b[i/8] ^= 1 << (i % 8)
			fails(t, b, api.ErrSum)
			b[i/8] ^= 1 << (i % 8)
		}
		for i := range len(b) - 1 {
			b[i] ^= 1
			b[i+1] ^= 128
			fails(t, b, api.ErrSum)
			b[i] ^= 1
			b[i+1] ^= 128
		}
		for n := 3; n < len(b); n++ {
			fails(t, b[:n], api.ErrSum)
		}
		fails(t, append(slices.Clone(b), 1), api.ErrSum)
		fails(t, append([]byte{0}, b...), api.ErrSum)
		// Noughts behind a right sum leave it right, so that the bytes are too many.
		fails(t, append(slices.Clone(b), 0), api.ErrForm)
		gives(t, b, f)
	}
}

// P9.2: a wrong sum is told ahead of what can't be so.
func TestGetSumFirst(t *testing.T) {
	for _, b := range [][]byte{{}, {0}, {0xFF}, {0x21, 0x20}, make([]byte, 18), make([]byte, 200)} {
		fails(t, crc.Fix(b), api.ErrForm)
		bad := crc.Fix(b)
		bad[len(bad)-1] ^= 1
		fails(t, bad, api.ErrSum)
	}
}

// P9.2: the sum is right, and bits are missing, or left.
func TestGetMissingOrLeft(t *testing.T) {
	empty, full := data(), data()
	empty.Body, full.Body = nil, text(16, 1)
	for _, f := range append(each(), empty, full) {
		whole := packed(digits(f))
		for n := range len(whole) {
			fails(t, crc.Fix(whole[:n]), api.ErrForm)
		}
		gives(t, crc.Fix(whole), f)
		for n := range 100 {
			fails(t, crc.Fix(append(slices.Clone(whole), make([]byte, n+1)...)), api.ErrForm)
			fails(t, crc.Fix(append(slices.Clone(whole), text(n+1, 1)...)), api.ErrForm)
		}
		fails(t, crc.Fix(append(slices.Clone(whole), make([]byte, 1<<16)...)), api.ErrForm)
		// A sum behind a sum.
		fails(t, crc.Fix(crc.Fix(whole)), api.ErrForm)
	}
}

// P9.2: the sum is right, and what fills up the last byte is not noughts.
func TestGetFilling(t *testing.T) {
	for _, f := range each() {
		d := digits(f)
		room := 8*((len(d)+7)/8) - len(d)
		if room == 0 {
			t.Errorf("%v has no room behind it", f)
		}
		for n := 1; n < 1<<room; n++ {
			fails(t, crc.Fix(packed(d+spell(uint64(n), room))), api.ErrForm)
		}
		gives(t, crc.Fix(packed(d+spell(0, room))), f)
	}
}

// P9.2: the sum is right, all bits are there, and say a number that Put would refuse.
func TestGetNumbers(t *testing.T) {
	for _, c := range fields() {
		for _, f := range each() {
			if !slices.Contains(c.kinds, f.Kind) {
				continue
			}
			c.set(&f, c.most)
			apart(&f, c.name)
			gives(t, crc.Fix(packed(digits(f))), f)
			for _, n := range []int64{c.most + 1, c.most + 2, 2*c.most + 1, 1<<c.width - 1} {
				if n > c.most && n < 1<<c.width {
					c.set(&f, n)
					fails(t, crc.Fix(packed(digits(f))), api.ErrForm)
				}
			}
		}
	}
}

// P9.2: the sum is right, and the kind none of the three, or the nodes can't be.
func TestGetKindsAndNodes(t *testing.T) {
	for kind := range 16 {
		for _, f := range each() {
			d := spell(uint64(kind), 4) + digits(f)[4:]
			if kind == f.Kind {
				gives(t, crc.Fix(packed(d)), f)
			} else if kind == 0 || kind > 3 {
				fails(t, crc.Fix(packed(d)), api.ErrForm)
			}
		}
		for n := range 60 {
			b := make([]byte, n+1)
			b[0] = byte(kind << 4)
			if kind == 0 || kind > 3 {
				fails(t, crc.Fix(b), api.ErrForm)
			}
		}
	}
	for from := range 16 {
		for to := range 16 {
			for _, f := range []api.Frame{ping(), pong()} {
				f.From, f.To = from, to
				if from < 8 && to < 8 && from != to {
					gives(t, crc.Fix(packed(digits(f))), f)
				} else {
					fails(t, crc.Fix(packed(digits(f))), api.ErrForm)
				}
			}
		}
	}
}

// P9.2: bodies of 17 to 31 bytes that are all there, and how many there are told wrongly.
func TestGetBodies(t *testing.T) {
	for n := range 32 {
		f := data()
		f.Body = text(n, 1)
		b := crc.Fix(packed(digits(f)))
		if n <= 16 {
			gives(t, b, f)
		} else {
			fails(t, b, api.ErrForm)
		}
		for size := range 32 {
			if size == n || n > 16 {
				continue
			}
			d := digits(f)
			fails(t, crc.Fix(packed(d[:200]+spell(uint64(size), 5)+d[205:])), api.ErrForm)
		}
	}
}

// P9.2, P9.3: whatever bit is turned, with the sum set right: it can't be so, or it is another frame, of which Put tells these bytes.
func TestGetTurned(t *testing.T) {
	for _, f := range each() {
		for i := range len(digits(f)) {
			b := packed(digits(f))
			b[i/8] ^= 0x80 >> (i % 8)
			undone(t, crc.Fix(b))
			for j := range i {
				b[j/8] ^= 0x80 >> (j % 8)
				undone(t, crc.Fix(b))
				b[j/8] ^= 0x80 >> (j % 8)
			}
		}
	}
}

// undone checks that Put undoes Get, if Get takes bytes with a right sum.
func undone(t *testing.T, b []byte) {
	t.Helper()
	f, e := Get(b)
	if e != api.OK {
		fails(t, b, api.ErrForm)
		return
	}
	if back, e := Put(f); !bytes.Equal(back, b) || e != api.OK || !bytes.Equal(crc.Fix(packed(digits(f))), b) {
		t.Errorf("Put of Get(%x): %x, %d", b, back, e)
	}
}

// P9.2: each field of the type counts, and the lists by each byte and by their lengths.
func TestSame(t *testing.T) {
	for _, f := range append(each(), api.Frame{}, api.Frame{Kind: -1, From: math.MinInt, Stamp: math.MinInt64, Nonce: math.MaxUint64, Tag: text(99, 1)}) {
		if !Same(f, f) || !Same(f, copied(f)) {
			t.Errorf("Same(%v) of itself", f)
		}
		for i := range reflect.TypeFor[api.Frame]().NumField() {
			for _, g := range changed(f, i) {
				if Same(f, g) || Same(g, f) {
					t.Errorf("Same(%v, %v)", f, g)
				}
			}
		}
	}
	for i, f := range each() {
		for j, g := range each() {
			if Same(f, g) != (i == j) {
				t.Errorf("Same(%v, %v)", f, g)
			}
		}
	}
}

// changed are frames that differ from f in the field i alone.
func changed(f api.Frame, i int) []api.Frame {
	var all []api.Frame
	add := func(change func(v reflect.Value)) {
		g := copied(f)
		change(reflect.ValueOf(&g).Elem().Field(i))
		all = append(all, g)
	}
	switch v := reflect.ValueOf(f).Field(i); v.Kind() {
	case reflect.Int, reflect.Int64:
		for bit := range 64 {
			add(func(x reflect.Value) { x.SetInt(v.Int() ^ 1<<bit) })
		}
	case reflect.Uint64:
		for bit := range 64 {
			add(func(x reflect.Value) { x.SetUint(v.Uint() ^ 1<<bit) })
		}
	case reflect.Slice:
		b := v.Bytes()
		for at := range b {
			add(func(x reflect.Value) { x.Bytes()[at] ^= 0x10 })
		}
		add(func(x reflect.Value) { x.SetBytes(append(slices.Clone(b), 0)) })
		add(func(x reflect.Value) { x.SetBytes(append([]byte{0}, b...)) })
		if len(b) > 0 {
			add(func(x reflect.Value) { x.SetBytes(b[:len(b)-1]) })
			add(func(x reflect.Value) { x.SetBytes(b[1:]) })
			add(func(x reflect.Value) { x.SetBytes(nil) })
		}
	}
	return all
}

// P9.2, P3: nil and empty lists are the same; a byte that moved from one list to another is not.
func TestSameOfNone(t *testing.T) {
	none, empty := api.Frame{Kind: 1}, api.Frame{Kind: 1, Key: []byte{}, Body: text(5, 1)[:0], Tag: []byte{}}
	if !Same(none, empty) || !Same(empty, none) || !Same(empty, empty) || !Same(api.Frame{}, api.Frame{}) {
		t.Error("nil and empty lists are not the same")
	}
	key, body, tag := api.Frame{Key: []byte{1}}, api.Frame{Body: []byte{1}}, api.Frame{Tag: []byte{1}}
	if Same(key, body) || Same(body, tag) || Same(tag, key) {
		t.Error("Same of lists that moved")
	}
	if Same(api.Frame{Key: []byte{1, 2}, Body: []byte{3}}, api.Frame{Key: []byte{1}, Body: []byte{2, 3}}) {
		t.Error("Same of lists that moved by one byte")
	}
	if Same(api.Frame{From: 1}, api.Frame{To: 1}) || Same(api.Frame{Start: 1}, api.Frame{Round: 1}) {
		t.Error("Same of numbers that moved")
	}
}

// P4: what is handed in is as it was, and nothing behind it is written on.
func TestHandedIn(t *testing.T) {
	row := text(120, 1)
	was := slices.Clone(row)
	for _, f := range each() {
		want, _ := Put(f)
		f.Tag = append(row[:0], f.Tag...)
		if f.Kind != api.FPing {
			f.Key = append(row[20:20], f.Key...)
		}
		if f.Kind == api.FData {
			f.Body = append(row[50:50], f.Body...)
		}
		held := slices.Clone(row)
		takes(t, f)
		if !bytes.Equal(row, held) {
			t.Errorf("the row has become %x", row)
		}
		b := append(row[:0], want...)
		held = slices.Clone(row)
		Get(b)
		Get(b[:len(b)-1])
		Same(f, f)
		if !bytes.Equal(row, held) {
			t.Errorf("the row has become %x", row)
		}
		copy(row, was)
	}
}

// P4: answers are new memory: whatever is done with one, or with what was handed in, changes no other.
func TestNewMemory(t *testing.T) {
	for _, f := range each() {
		f := copied(f)
		wantAll, wantCore := crc.Fix(packed(digits(f))), packed(coreDigits(f))
		all, _ := Put(f)
		core, _ := Core(f)
		got, _ := Get(all)
		want := copied(got)
		scribble(all, core)
		if !alike(got, want) {
			t.Errorf("Get hangs on what it was handed: %v, want %v", got, want)
		}
		if b, _ := Put(f); !bytes.Equal(b, wantAll) {
			t.Errorf("Put: %x, want %x", b, wantAll)
		}
		if b, _ := Core(f); !bytes.Equal(b, wantCore) {
			t.Errorf("Core: %x, want %x", b, wantCore)
		}
		again, _ := Get(wantAll)
		scribble(got.Key, got.Body, got.Tag)
		if !alike(again, want) {
			t.Errorf("Get hangs on an answer ahead of it: %v, want %v", again, want)
		}
		all, _ = Put(f)
		core, _ = Core(f)
		scribble(f.Key, f.Body, f.Tag)
		if !bytes.Equal(all, wantAll) || !bytes.Equal(core, wantCore) {
			t.Errorf("Put or Core hang on what was handed in: %x, %x", all, core)
		}
	}
}

// scribble changes lists, up to all that they could grow to.
func scribble(lists ...[]byte) {
	for _, l := range lists {
		l = l[:cap(l)]
		for i := range l {
			l[i] ^= 0x5A
		}
	}
}

// P4: no list of an answer shares memory with another, not even behind its end.
func TestListsApart(t *testing.T) {
	b, _ := Put(data())
	for i := range 3 {
		f, _ := Get(b)
		want := copied(f)
		l := []*[]byte{&f.Key, &f.Body, &f.Tag}
		w := []*[]byte{&want.Key, &want.Body, &want.Tag}
		scribble(*l[i])
		*w[i] = slices.Clone(*l[i])
		if !alike(f, want) {
			t.Errorf("lists share memory: %v, want %v", f, want)
		}
	}
}

// P5: what is answered hangs on nothing that was asked ahead of it.
func TestAnswersTheSame(t *testing.T) {
	for range 3 {
		for _, f := range each() {
			takes(t, f)
			bad := f
			bad.From = 9
			refuses(t, bad)
			fails(t, crc.Fix([]byte{0x21, 0x20}), api.ErrForm)
		}
	}
}

// P9.3: any frames and bytes that a fuzzer wants.
func FuzzAll(f *testing.F) {
	f.Add([]byte("hi"), 1, 3, 0, 1, 0, 2, uint64(0), int64(0), 7, 4)
	f.Add(packed(digits(ping())), 2, 1, 2, 0, 0, 0, uint64(math.MaxUint64), int64(0), 0, 0)
	f.Add(packed(digits(pong())), 3, 7, 0, 65535, 1<<20, 0, uint64(1), int64(1<<40), 0, 256)
	f.Add(packed(digits(data())), 3, 7, 7, 65536, -1, 1<<20+1, uint64(1), int64(math.MinInt64), 256, 257)
	f.Fuzz(func(t *testing.T, b []byte, kind int, from int, to int, epoch int, start int, round int, nonce uint64, stamp int64, view int, index int) {
		undone(t, crc.Fix(b))
		Get(b)
		g := api.Frame{Kind: kind, From: from, To: to, Epoch: epoch, Start: start, Round: round, Nonce: nonce, Stamp: stamp, View: view, Index: index, Key: b, Body: b, Tag: b}
		tried(t, g)
		tried(t, tamed(g))
	})
}

// tamed is a frame that is right, or near it.
func tamed(f api.Frame) api.Frame {
	g := api.Frame{Kind: 1 + int(uint(f.Kind)%3), From: f.From % 9, Tag: text(8, byte(f.Nonce))}
	switch g.Kind {
	case api.FData:
		g.Epoch, g.Round, g.View, g.Index, g.Key = f.Epoch%65537, f.Round%(1<<20+2), f.View%257, f.Index%258, text(16, byte(f.Stamp))
		g.Body = f.Body[:min(len(f.Body), 17)]
	case api.FPing:
		g.To, g.Nonce = f.To%9, f.Nonce
	case api.FPong:
		g.To, g.Nonce, g.Stamp, g.Epoch, g.Start, g.Index, g.Key = f.To%9, f.Nonce, f.Stamp%(1<<40+2), f.Epoch%65537, f.Start%(1<<20+2), f.Index%258, text(16, byte(f.Stamp))
	}
	return g
}

// tried checks a frame of which it is not known whether it is right.
func tried(t *testing.T, f api.Frame) {
	t.Helper()
	if !isRight(f) {
		refusesTag(t, f)
		return
	}
	takes(t, f)
}

// isRight tells in another way whether a frame is right: kind by kind, field by field.
func isRight(f api.Frame) bool {
	has := func(kinds ...int) bool { return slices.Contains(kinds, f.Kind) }
	number := func(n int64, most int64, has bool) bool { return n == 0 || has && n > 0 && n <= most }
	return has(1, 2, 3) &&
		number(int64(f.From), 7, true) &&
		number(int64(f.To), 7, has(2, 3)) && (has(1) || f.To != f.From) &&
		number(int64(f.Epoch), 65535, has(1, 3)) &&
		number(int64(f.Start), 1<<20, has(3)) &&
		number(int64(f.Round), 1<<20, has(1)) &&
		(has(2, 3) || f.Nonce == 0) &&
		number(f.Stamp, 1<<40, has(3)) &&
		number(int64(f.View), 255, has(1)) &&
		number(int64(f.Index), 256, has(1, 3)) &&
		(has(1, 3) && len(f.Key) == 16 || has(2) && len(f.Key) == 0) &&
		(has(1) && len(f.Body) <= 16 || len(f.Body) == 0) &&
		len(f.Tag) == 8
}
