package hmac

import (
	"bytes"
	library "crypto/hmac"
	"crypto/sha256"
	"encoding/hex"
	"math"
	"reflect"
	"slices"
	"strings"
	"testing"

	"carillon/api"
)

const most = api.MaxBytes - 64 // bytes that have a tag

// text is n bytes without a short period, none of them nought at its end.
func text(n int) []byte {
	b := make([]byte, n)
	for i := range b {
		b[i] = byte(i*i>>3^i*11^i>>8) | 1
	}
	return b
}

// keys are of the lengths at which a key is filled up, fits or is digested, and some beyond.
func keys() [][]byte {
	var l [][]byte
	for _, n := range []int{0, 1, 4, 16, 20, 31, 32, 33, 62, 63, 64, 65, 66, 127, 128, 129, 131, 1000} {
		l = append(l, text(n), make([]byte, n), bytes.Repeat([]byte{0x36}, n), bytes.Repeat([]byte{0x5c}, n))
	}
	return l
}

// lengths are those at which blocks of the inner digest end.
func lengths() []int {
	return []int{0, 1, 3, 28, 31, 32, 54, 55, 56, 57, 63, 64, 65, 119, 120, 127, 128, 129, 200, 1000}
}

// tag is the library's.
func tag(key []byte, b []byte) []byte {
	h := library.New(sha256.New, key)
	h.Write(b)
	return h.Sum(nil)
}

// wants checks a tag against that of the library.
func wants(t *testing.T, m *Mac, key []byte, b []byte) {
	t.Helper()
	if got, e := m.Sum(); !bytes.Equal(got, tag(key, b)) || e != api.OK {
		t.Errorf("Sum under %d bytes of %d bytes = %x, %v, want %x", len(key), len(b), got, e, tag(key, b))
	}
}

// begun is a tag of b.
func begun(t *testing.T, key []byte, b []byte) *Mac {
	t.Helper()
	m, e := New(key)
	if e != api.OK {
		t.Fatalf("New of %d bytes: %v", len(key), e)
	}
	if e := m.Write(b); e != api.OK {
		t.Fatalf("Write of %d bytes: %v", len(b), e)
	}
	return m
}

type published struct {
	key, b, tag string
}

func allPublished() []published {
	var counted []byte
	for i := range 25 {
		counted = append(counted, byte(i+1))
	}
	return []published{
		{strings.Repeat("\x0b", 20), "Hi There", "b0344c61d8db38535ca8afceaf0bf12b881dc200c9833da726e9376c2e32cff7"},
		{"Jefe", "what do ya want for nothing?", "5bdcc146bf60754e6a042426089575c75a003f089d2739839dec58b964ec3843"},
		{strings.Repeat("\xaa", 20), strings.Repeat("\xdd", 50), "773ea91e36800e46854db8ebd09181a72959098b3ef8c122d9635514ced565fe"},
		{string(counted), strings.Repeat("\xcd", 50), "82558a389a443c0ea4cc819899f2083a85f0faa3e578f8077a2e3ff46729665b"},
		{strings.Repeat("\x0c", 20), "Test With Truncation", "a3b6167473100ee06e0c796c2955552b"},
		{strings.Repeat("\xaa", 131), "Test Using Larger Than Block-Size Key - Hash Key First", "60e431591ee0b67f0d8a26aacbf5b77f8e0bc6213728c5140546040f0ee37f54"},
		{strings.Repeat("\xaa", 131), "This is a test using a larger than block-size key and a larger than block-size data. The key needs to be hashed before being used by the HMAC algorithm.", "9b09ffa71b942fcb27635fbcd5b0e944bfdc63644f0713938a7f51535c3a35e2"},
		{"", "", "b613679a0814d9ec772f95d778c35fc5ff1697c493715653c6c712144292c5ad"},
	}
}

// P3.1, P3.2: the tags that were published, told by each call; one of them is cut to half of its bytes.
func TestPublished(t *testing.T) {
	for _, p := range allPublished() {
		key, b := []byte(p.key), []byte(p.b)
		want, err := hex.DecodeString(p.tag)
		if err != nil {
			t.Fatal(err)
		}
		if got, e := Of(key, b); len(got) != 32 || !bytes.HasPrefix(got, want) || e != api.OK {
			t.Errorf("Of(%.20q, %.20q) = %x, %v, want %x", p.key, p.b, got, e, want)
		}
		if got, e := Short(key, b, len(want)); !bytes.Equal(got, want) || e != api.OK {
			t.Errorf("Short(%.20q, %.20q, %d) = %x, %v, want %x", p.key, p.b, len(want), got, e, want)
		}
		if !Check(key, b, want) {
			t.Errorf("Check(%.20q, %.20q, %x) = false", p.key, p.b, want)
		}
		if got, e := begun(t, key, b).Sum(); len(got) != 32 || !bytes.HasPrefix(got, want) || e != api.OK {
			t.Errorf("Sum under %.20q of %.20q = %x, %v, want %x", p.key, p.b, got, e, want)
		}
	}
}

// P3.1: the chapter's example.
func TestExample(t *testing.T) {
	got, e := Short([]byte("Jefe"), []byte("what do ya want for nothing?"), 4)
	if !bytes.Equal(got, []byte{0x5b, 0xdc, 0xc1, 0x46}) || e != api.OK {
		t.Errorf("Short = %x, %v", got, e)
	}
}

// P3.1: Of, keys and bytes of all kinds of lengths.
func TestOf(t *testing.T) {
	for _, key := range keys() {
		for _, n := range lengths() {
			if got, e := Of(key, text(n)); !bytes.Equal(got, tag(key, text(n))) || e != api.OK {
				t.Errorf("Of %d bytes under %d bytes = %x, %v", n, len(key), got, e)
			}
		}
	}
}

// P3: nil and empty lists are the same, as key and as bytes.
func TestNoBytes(t *testing.T) {
	want := tag(nil, nil)
	for _, key := range [][]byte{nil, {}} {
		for _, b := range [][]byte{nil, {}} {
			if got, e := Of(key, b); !bytes.Equal(got, want) || e != api.OK {
				t.Errorf("Of(%#v, %#v) = %x, %v", key, b, got, e)
			}
			if got, e := Short(key, b, 7); !bytes.Equal(got, want[:7]) || e != api.OK {
				t.Errorf("Short(%#v, %#v, 7) = %x, %v", key, b, got, e)
			}
			if !Check(key, b, want) {
				t.Errorf("Check(%#v, %#v) = false", key, b)
			}
			wants(t, begun(t, key, b), nil, nil)
		}
	}
}

// P3.1, P3.2: a key of MaxBytes has tags; one of more is ErrLong, with nothing beside it.
func TestKeyLimit(t *testing.T) {
	b := []byte("bytes")
	for _, n := range []int{api.MaxBytes - 1, api.MaxBytes} {
		key := text(n)
		if got, e := Of(key, b); !bytes.Equal(got, tag(key, b)) || e != api.OK {
			t.Errorf("Of under %d bytes = %x, %v", n, got, e)
		}
		wants(t, begun(t, key, b), key, b)
	}
	for _, n := range []int{api.MaxBytes + 1, api.MaxBytes + 64, 2 * api.MaxBytes} {
		for _, key := range [][]byte{text(n), make([]byte, n)} {
			if got, e := Of(key, b); len(got) != 0 || e != api.ErrLong {
				t.Errorf("Of under %d bytes = %x, %v", n, got, e)
			}
			if m, e := New(key); m != nil || e != api.ErrLong {
				t.Errorf("New of %d bytes = %v, %v", n, m, e)
			}
		}
	}
}

// P3.1: MaxBytes less 64 bytes have a tag, whatever the key; more are ErrLong, with nothing beside it.
func TestOfLimit(t *testing.T) {
	all := text(2 * api.MaxBytes)
	for _, key := range [][]byte{nil, text(16), text(64), text(65)} {
		for _, n := range []int{most - 1, most} {
			if got, e := Of(key, all[:n]); !bytes.Equal(got, tag(key, all[:n])) || e != api.OK {
				t.Errorf("Of %d bytes under %d bytes = %x, %v", n, len(key), got, e)
			}
		}
		for _, n := range []int{most + 1, most + 63, most + 64, most + 65, 2 * api.MaxBytes} {
			if got, e := Of(key, all[:n]); len(got) != 0 || e != api.ErrLong {
				t.Errorf("Of %d bytes under %d bytes = %x, %v", n, len(key), got, e)
			}
		}
	}
	if got, e := Of(all, all); len(got) != 0 || e != api.ErrLong {
		t.Errorf("Of with both too long = %x, %v", got, e)
	}
}

// P3.1: Short, each n from 1 to 32.
func TestShort(t *testing.T) {
	for _, key := range keys() {
		want := tag(key, text(77))
		for n := 1; n <= 32; n++ {
			if got, e := Short(key, text(77), n); !bytes.Equal(got, want[:n]) || e != api.OK {
				t.Errorf("Short under %d bytes, %d = %x, %v, want %x", len(key), n, got, e, want[:n])
			}
		}
	}
}

// P3.1: Short tells n bytes, and nothing that a caller could cut out of the room behind them.
func TestShortHoldsNoMore(t *testing.T) {
	want := tag(text(16), text(77))
	for n := 1; n < 32; n++ {
		got, _ := Short(text(16), text(77), n)
		if behind := got[n:cap(got)]; len(behind) > 0 && behind[0] == want[n] {
			t.Errorf("Short(.., %d) has %x behind it", n, behind)
		}
	}
}

// P3.1, P2: n that is not 1 to 32 is ErrArg, ahead of what is too long; what is too long is Of's error.
func TestShortRefuses(t *testing.T) {
	long := make([]byte, api.MaxBytes+1)
	for _, n := range []int{math.MinInt, math.MinInt32, -32, -1, 0, 33, 34, 64, 256 + 4, math.MaxInt32, math.MaxInt} {
		for _, key := range [][]byte{nil, text(16), long} {
			for _, b := range [][]byte{nil, text(77), long} {
				if got, e := Short(key, b, n); len(got) != 0 || e != api.ErrArg {
					t.Errorf("Short of %d and %d bytes, %d = %x, %v", len(key), len(b), n, got, e)
				}
			}
		}
	}
	for _, n := range []int{1, 4, 32} {
		if got, e := Short(long, nil, n); len(got) != 0 || e != api.ErrLong {
			t.Errorf("Short under a key that is too long, %d = %x, %v", n, got, e)
		}
		if got, e := Short(nil, long[:most+1], n); len(got) != 0 || e != api.ErrLong {
			t.Errorf("Short of bytes that are too long, %d = %x, %v", n, got, e)
		}
	}
}

// P3.1: Check takes the first 4 to 32 bytes of a tag, and neither fewer nor more of them.
func TestCheckLengths(t *testing.T) {
	for _, key := range keys() {
		want := tag(key, text(77))
		for n := range 33 {
			if got := Check(key, text(77), want[:n]); got != (n >= 4) {
				t.Errorf("Check under %d bytes, of %d bytes of the tag = %v", len(key), n, got)
			}
		}
		for _, behind := range [][]byte{{0}, {want[0]}, want, make([]byte, 32), make([]byte, 224+4), make([]byte, 1000)} {
			if Check(key, text(77), slices.Concat(want, behind)) {
				t.Errorf("Check takes a tag with %d bytes behind it", len(behind))
			}
		}
		if Check(key, text(77), nil) || Check(key, text(77), []byte{}) {
			t.Error("Check takes no tag at all")
		}
	}
}

// P3.1: Check refuses a tag with one bit turned, wherever it is, and other bytes of the tag than the first ones.
func TestCheckRefuses(t *testing.T) {
	key, b := text(16), text(77)
	want := tag(key, b)
	for n := 4; n <= 32; n++ {
		for bit := range 8 * n {
			wrong := slices.Clone(want[:n])
			wrong[bit/8] ^= 1 << (bit % 8)
			if Check(key, b, wrong) {
				t.Errorf("Check takes %d bytes with bit %d turned", n, bit)
			}
		}
		if Check(key, b, make([]byte, n)) {
			t.Errorf("Check takes %d noughts", n)
		}
		if n < 32 && Check(key, b, want[32-n:]) {
			t.Errorf("Check takes the last %d bytes", n)
		}
	}
}

// P3.1: Check refuses the tag of other bytes, and that under another key.
func TestCheckOther(t *testing.T) {
	key, b := text(16), text(77)
	for bit := range 8 * len(key) {
		wrong := slices.Clone(key)
		wrong[bit/8] ^= 1 << (bit % 8)
		if Check(wrong, b, tag(key, b)) {
			t.Errorf("Check takes a key with bit %d turned", bit)
		}
	}
	for bit := range 8 * len(b) {
		wrong := slices.Clone(b)
		wrong[bit/8] ^= 1 << (bit % 8)
		if Check(key, wrong, tag(key, b)) {
			t.Errorf("Check takes bytes with bit %d turned", bit)
		}
	}
	if Check(key, b[:76], tag(key, b)) || Check(key, append(b, 0), tag(key, b)) || Check(b, key, tag(key, b)) {
		t.Error("Check takes other bytes")
	}
}

// P3.1: Check at the limits; what is too long has no tag.
func TestCheckLimit(t *testing.T) {
	all := text(api.MaxBytes + 1)
	if b := all[:most]; !Check(nil, b, tag(nil, b)) {
		t.Error("Check refuses a tag of as many bytes as there may be")
	}
	if key := all[:api.MaxBytes]; !Check(key, nil, tag(key, nil)) {
		t.Error("Check refuses a tag under as long a key as there may be")
	}
	b := all[:most+1]
	for _, wrong := range [][]byte{nil, tag(nil, b), tag(nil, b)[:4], tag(nil, nil), make([]byte, 4), make([]byte, 32)} {
		if Check(nil, b, wrong) {
			t.Errorf("Check takes %x of bytes that are too long", wrong)
		}
	}
	for _, wrong := range [][]byte{nil, tag(all, nil), tag(all, nil)[:4], tag(nil, nil), make([]byte, 4), make([]byte, 32)} {
		if Check(all, nil, wrong) {
			t.Errorf("Check takes %x under a key that is too long", wrong)
		}
	}
}

// P3.2: New is of no bytes; Write of none leaves it so; two of them are apart.
func TestNew(t *testing.T) {
	for _, key := range keys() {
		m, other := begun(t, key, nil), begun(t, key, nil)
		wants(t, m, key, nil)
		for _, b := range [][]byte{nil, {}} {
			if e := m.Write(b); e != api.OK {
				t.Errorf("Write of no bytes: %v", e)
			}
			wants(t, m, key, nil)
		}
		m.Write([]byte("abc"))
		wants(t, m, key, []byte("abc"))
		wants(t, other, key, nil)
	}
}

// P3.2: Sum changes nothing: told twice it is the same, and more may come.
func TestMoreBehindSum(t *testing.T) {
	for _, key := range [][]byte{nil, text(16), text(64), text(65)} {
		for _, n := range lengths() {
			for _, more := range []int{0, 1, 8, 55, 56, 63, 64, 65, 128} {
				b := text(n + more)
				m := begun(t, key, b[:n])
				wants(t, m, key, b[:n])
				wants(t, m, key, b[:n])
				if e := m.Write(b[n:]); e != api.OK {
					t.Errorf("Write behind Sum: %v", e)
				}
				wants(t, m, key, b)
			}
		}
	}
}

// P3.2: bytes may come up to MaxBytes less 64; what would be more is ErrLong, and nothing has changed: what still fits may come.
func TestWriteLimit(t *testing.T) {
	all := text(most)
	for _, key := range [][]byte{nil, text(64), text(65)} {
		for _, n := range []int{0, 1, 63, 64, 65, most - 65, most - 64, most - 1, most} {
			m := begun(t, key, all[:n])
			for _, more := range []int{most - n + 1, most - n + 63, most - n + 64, most - n + 65, most + 1, api.MaxBytes + 1, 2 * api.MaxBytes} {
				if e := m.Write(make([]byte, more)); e != api.ErrLong {
					t.Errorf("Write of %d bytes behind %d: %v", more, n, e)
				}
			}
			wants(t, m, key, all[:n])
			if e := m.Write(nil); e != api.OK {
				t.Errorf("Write of no bytes behind %d: %v", n, e)
			}
			if e := m.Write(all[n:]); e != api.OK {
				t.Errorf("Write of as many as may come behind %d: %v", n, e)
			}
			if e := m.Write([]byte{0}); e != api.ErrLong {
				t.Errorf("Write of one more: %v", e)
			}
			wants(t, m, key, all)
		}
	}
}

// P3.2, P1: of a nil one, and of one that no call made: ErrZero. Even if what is written would be too long, and still behind a Write.
func TestNoCallMadeIt(t *testing.T) {
	var zero Mac
	for name, m := range map[string]*Mac{"nil": nil, "zero": &zero, "new": new(Mac)} {
		for range 2 {
			for _, b := range [][]byte{nil, {}, {1}, text(64), make([]byte, most+1), make([]byte, api.MaxBytes+1)} {
				if e := m.Write(b); e != api.ErrZero {
					t.Errorf("%s: Write of %d bytes: %v", name, len(b), e)
				}
			}
			if got, e := m.Sum(); len(got) != 0 || e != api.ErrZero {
				t.Errorf("%s: Sum = %x, %v", name, got, e)
			}
		}
	}
}

// The chapter lists two calls of a tag: what the digest inside has beside them is not handed on, and would panic of a nil one.
func TestNoOtherCalls(t *testing.T) {
	var got []string
	for m := range reflect.TypeFor[*Mac]().Methods() {
		got = append(got, m.Name)
	}
	if !slices.Equal(got, []string{"Sum", "Write"}) {
		t.Errorf("a tag has the calls %v", got)
	}
}

// P4: what is handed in is neither changed nor kept, nor what lies behind it.
func TestKeepsNothing(t *testing.T) {
	for _, n := range []int{0, 1, 16, 63, 64, 65, 131} {
		for _, size := range lengths() {
			whole, room := text(n+200), text(size+200)
			key, b := whole[:n], room[:size]
			want := tag(key, b)
			of, _ := Of(key, b)
			short, _ := Short(key, b, 8)
			check := append(slices.Clone(want), text(50)...)
			Check(key, b, check[:32])
			m := begun(t, key, b)
			m.Sum()
			if !bytes.Equal(whole, text(n+200)) || !bytes.Equal(room, text(size+200)) || !bytes.Equal(check, append(slices.Clone(want), text(50)...)) {
				t.Errorf("%d and %d bytes: what was handed in has changed", n, size)
			}
			clear(whole)
			clear(room)
			if !bytes.Equal(of, want) || !bytes.Equal(short, want[:8]) {
				t.Errorf("%d and %d bytes: an answer hangs on what was handed in", n, size)
			}
			m.Write([]byte("more"))
			wants(t, m, text(n), append(text(size), "more"...))
		}
	}
}

// P4: what is answered is new memory each time.
func TestAnswersAreNewMemory(t *testing.T) {
	for _, key := range keys() {
		m := begun(t, key, text(77))
		for range 2 {
			of, _ := Of(key, text(77))
			clear(of)
			short, _ := Short(key, text(77), 32)
			clear(short)
			sum, _ := m.Sum()
			clear(sum)
			wants(t, m, key, text(77))
		}
	}
}

// P3.3: cut once, anywhere, told between or not.
func TestCutOnce(t *testing.T) {
	key := text(16)
	for _, n := range lengths() {
		b := text(n)
		for at := range n + 1 {
			m := begun(t, key, b[:at])
			if at%2 == 0 {
				m.Sum()
			}
			m.Write(b[at:])
			wants(t, m, key, b)
		}
	}
}

// P3.3: cut twice, anywhere.
func TestCutTwice(t *testing.T) {
	key, b := text(65), text(131)
	for i := range len(b) + 1 {
		for j := i; j <= len(b); j++ {
			m := begun(t, key, b[:i])
			m.Write(b[i:j])
			m.Write(b[j:])
			wants(t, m, key, b)
		}
	}
}

// P3.3: cut into pieces of one length.
func TestCutIntoPieces(t *testing.T) {
	for _, key := range [][]byte{nil, text(16), text(64), text(65)} {
		for _, n := range lengths() {
			for _, size := range []int{1, 2, 3, 7, 16, 31, 55, 56, 63, 64, 65, 127, 128, 129} {
				m := begun(t, key, nil)
				for p := range slices.Chunk(text(n), size) {
					m.Write(p)
				}
				wants(t, m, key, text(n))
			}
		}
	}
}

// P3.3: a key with noughts behind it, up to 64, has the same tags, told by each call.
func TestNoughtsBehindKey(t *testing.T) {
	b := text(77)
	for n := range 65 {
		key := text(n)
		want := tag(key, b)
		for size := n; size <= 64; size++ {
			longer := append(slices.Clone(key), make([]byte, size-n)...)
			if got, e := Of(longer, b); !bytes.Equal(got, want) || e != api.OK {
				t.Errorf("Of under %d bytes and %d noughts = %x, %v, want %x", n, size-n, got, e, want)
			}
			if got, e := Short(longer, b, 8); !bytes.Equal(got, want[:8]) || e != api.OK {
				t.Errorf("Short under %d bytes and %d noughts = %x, %v", n, size-n, got, e)
			}
			if !Check(longer, b, want) {
				t.Errorf("Check under %d bytes and %d noughts = false", n, size-n)
			}
			if got, e := begun(t, longer, b).Sum(); !bytes.Equal(got, want) || e != api.OK {
				t.Errorf("Sum under %d bytes and %d noughts = %x, %v", n, size-n, got, e)
			}
		}
	}
}

// P3.3: the noughts count beyond 64, and ahead of a key.
func TestNoughtsThatCount(t *testing.T) {
	b := text(77)
	for _, n := range []int{0, 1, 16, 63, 64} {
		key := text(n)
		beyond := append(slices.Clone(key), make([]byte, 65-n)...)
		if Check(beyond, b, tag(key, b)) {
			t.Errorf("%d bytes and noughts up to 65 have the same tag", n)
		}
		if n > 0 && Check(append([]byte{0}, key...), b, tag(key, b)) {
			t.Errorf("a nought ahead of %d bytes has the same tag", n)
		}
	}
}

// P3.1: a key of more than 64 bytes stands for its digest; one of 64 for itself.
func TestLongKeyIsItsDigest(t *testing.T) {
	b := text(77)
	for _, n := range []int{63, 64, 65, 128, 1000} {
		sum := sha256.Sum256(text(n))
		if got := Check(sum[:], b, tag(text(n), b)); got != (n > 64) {
			t.Errorf("the digest of a key of %d bytes has the same tag: %v", n, got)
		}
	}
}

// P3.1 to P3.3: any key, bytes that are cut wherever a fuzzer wants it.
func FuzzCut(f *testing.F) {
	f.Add(text(16), text(130), 3)
	f.Add(text(65), []byte{}, 0)
	f.Fuzz(func(t *testing.T, key []byte, b []byte, at int) {
		if len(key) > api.MaxBytes || len(b) > most {
			return
		}
		at = int(uint(at) % uint(len(b)+1))
		m := begun(t, key, b[:at])
		m.Write(b[at:])
		wants(t, m, key, b)
		if !Check(key, b, tag(key, b)) {
			t.Errorf("Check(%x, %x, %x) = false", key, b, tag(key, b))
		}
	})
}
