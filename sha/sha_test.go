package sha

import (
	"bytes"
	"crypto/sha256"
	"encoding"
	"encoding/binary"
	"encoding/hex"
	"math"
	"math/big"
	"slices"
	"strings"
	"testing"

	"carillon/api"
)

// text is n bytes without a short period, so that blocks that are left out or changed round are seen.
func text(n int) []byte {
	b := make([]byte, n)
	for i := range b {
		b[i] = byte(i*i>>3 ^ i*11 ^ i>>8)
	}
	return b
}

// lengths are those at which the filling up changes, and some beyond.
func lengths() []int {
	l := []int{0, 1, 2, 3, 4, 31, 32, 54, 55, 56, 57, 62, 63, 64, 65, 66}
	for n := 118; n <= 130; n++ {
		l = append(l, n)
	}
	return append(l, 183, 184, 191, 192, 193, 255, 256, 1000, 1<<12)
}

// wants checks a digest against that of the library.
func wants(t *testing.T, d *Digest, b []byte) {
	t.Helper()
	want := sha256.Sum256(b)
	if got, e := d.Sum(); !bytes.Equal(got, want[:]) || e != api.OK {
		t.Errorf("Sum of %d bytes = %x, %v, want %x", len(b), got, e, want)
	}
	if d.Len() != len(b) {
		t.Errorf("Len = %d, want %d", d.Len(), len(b))
	}
}

// written is a digest of b.
func written(t *testing.T, b []byte) *Digest {
	t.Helper()
	d := New()
	if e := d.Write(b); e != api.OK {
		t.Fatalf("Write of %d bytes: %v", len(b), e)
	}
	return d
}

// P2.1: Of, the digests that were published.
func TestOfPublished(t *testing.T) {
	for s, want := range map[string]string{
		"":    "e3b0c44298fc1c149afbf4c8996fb92427ae41e4649b934ca495991b7852b855",
		"abc": "ba7816bf8f01cfea414140de5dae2223b00361a396177a9cb410ff61f20015ad",
		"abcdbcdecdefdefgefghfghighijhijkijkljklmklmnlmnomnopnopq":                                                         "248d6a61d20638b8e5c026930c3e6039a33ce45964ff2167f6ecedd419db06c1",
		"abcdefghbcdefghicdefghijdefghijkefghijklfghijklmghijklmnhijklmnoijklmnopjklmnopqklmnopqrlmnopqrsmnopqrstnopqrstu": "cf5b16a778af8380036ce59e7b0492370b249b11e8f07a51afac45037afee9d1",
		strings.Repeat("a", 1000000): "cdc76e5c9914fb9281a1c7e284d73e67f1809a48a497200e046d39ccc7112cd0",
	} {
		if got, e := Of([]byte(s)); hex.EncodeToString(got) != want || e != api.OK {
			t.Errorf("Of(%.20q) = %x, %v, want %s", s, got, e, want)
		}
	}
}

// P2.1: Of at each length up to five blocks, of bytes and of noughts, and at some beyond.
func TestOfEachLength(t *testing.T) {
	var all []int
	for n := range 321 {
		all = append(all, n)
	}
	for _, n := range append(all, 1000, 1<<12, 1<<16-9, 1<<16-8, 1<<16) {
		for _, b := range [][]byte{text(n), make([]byte, n), bytes.Repeat([]byte{0x80}, n), bytes.Repeat([]byte{0xff}, n)} {
			want := sha256.Sum256(b)
			if got, e := Of(b); !bytes.Equal(got, want[:]) || e != api.OK {
				t.Errorf("Of %d bytes = %x, %v, want %x", n, got, e, want)
			}
		}
	}
	if got, e := Of([]byte{}); !bytes.Equal(got, must(Of(nil))) || e != api.OK {
		t.Errorf("Of of an empty list = %x, %v", got, e)
	}
}

func must(b []byte, e api.Errno) []byte {
	if e != api.OK {
		panic(e)
	}
	return b
}

// P2.1: Of up to MaxBytes; one more, and far more, is ErrLong, with nothing beside it.
func TestOfLimit(t *testing.T) {
	for _, n := range []int{api.MaxBytes - 1, api.MaxBytes} {
		want := sha256.Sum256(text(n))
		if got, e := Of(text(n)); !bytes.Equal(got, want[:]) || e != api.OK {
			t.Errorf("Of %d bytes = %x, %v, want %x", n, got, e, want)
		}
	}
	for _, n := range []int{api.MaxBytes + 1, api.MaxBytes + 64, 2 * api.MaxBytes} {
		if got, e := Of(make([]byte, n)); len(got) != 0 || e != api.ErrLong {
			t.Errorf("Of %d bytes = %x, %v", n, got, e)
		}
	}
}

// fraction is the first 32 bits of the fraction of a root of p.
func fraction(p int64, root uint) uint32 {
	n := new(big.Int).Lsh(big.NewInt(p), 32*root)
	low, high := big.NewInt(0), new(big.Int).Lsh(big.NewInt(p), 32)
	for high.Cmp(new(big.Int).Add(low, big.NewInt(1))) > 0 {
		mid := new(big.Int).Rsh(new(big.Int).Add(low, high), 1)
		if new(big.Int).Exp(mid, big.NewInt(int64(root)), nil).Cmp(n) <= 0 {
			low = mid
		} else {
			high = mid
		}
	}
	return uint32(low.Uint64())
}

func primes(n int) []int64 {
	var l []int64
	for p := int64(2); len(l) < n; p++ {
		if !slices.ContainsFunc(l, func(q int64) bool { return p%q == 0 }) {
			l = append(l, p)
		}
	}
	return l
}

// P2.1: Start and the rounds' words are fractions of roots of primes.
func TestRoots(t *testing.T) {
	var start, k []uint32
	for _, p := range primes(8) {
		start = append(start, fraction(p, 2))
	}
	for _, p := range primes(64) {
		k = append(k, fraction(p, 3))
	}
	if got := Start(); !slices.Equal(got, start) {
		t.Errorf("Start() = %x, want %x", got, start)
	}
	if !slices.Equal(roundWords[:], k) {
		t.Errorf("the rounds' words = %x, want %x", roundWords, k)
	}
}

// P4: what Start answers is new memory each time.
func TestStartIsNewMemory(t *testing.T) {
	s := Start()
	clear(s)
	if again := Start(); again[0] != 0x6a09e667 || again[7] != 0x5be0cd19 {
		t.Errorf("Start() = %x behind a change of what it answered", again)
	}
	wants(t, New(), nil)
}

// after is the state behind a block as the library tells it.
func after(t *testing.T, state []uint32, block []byte) []uint32 {
	t.Helper()
	b := []byte("sha\x03")
	for _, x := range state {
		b = binary.BigEndian.AppendUint32(b, x)
	}
	b = append(b, make([]byte, 64+8)...)
	h := sha256.New()
	if err := h.(encoding.BinaryUnmarshaler).UnmarshalBinary(b); err != nil {
		t.Fatal(err)
	}
	h.Write(block)
	b, err := h.(encoding.BinaryMarshaler).MarshalBinary()
	if err != nil {
		t.Fatal(err)
	}
	out := make([]uint32, 8)
	for i := range out {
		out[i] = binary.BigEndian.Uint32(b[4+4*i:])
	}
	return out
}

// P2.1: Block, from any state over any block, each bit of both.
func TestBlock(t *testing.T) {
	states := [][]uint32{Start(), make([]uint32, 8), slices.Repeat([]uint32{math.MaxUint32}, 8), {1, 2, 3, 4, 5, 6, 7, 8}}
	for i := range 256 {
		s := make([]uint32, 8)
		s[i/32] = 1 << (i % 32)
		states = append(states, s)
	}
	for _, s := range states {
		if got, e := Block(s, text(64)); !slices.Equal(got, after(t, s, text(64))) || e != api.OK {
			t.Errorf("Block(%x, text) = %x, %v", s, got, e)
		}
	}
	for i := range 512 {
		b := make([]byte, 64)
		b[i/8] = 1 << (i % 8)
		if got, e := Block(Start(), b); !slices.Equal(got, after(t, Start(), b)) || e != api.OK {
			t.Errorf("Block(Start(), bit %d) = %x, %v", i, got, e)
		}
	}
}

// P2.1: the digest of a text that was filled up by hand is the state behind its blocks.
func TestBlockMakesDigest(t *testing.T) {
	b := append([]byte("abc\x80"), make([]byte, 59)...)
	b = append(b, 24)
	got, e := Block(Start(), b)
	want := []uint32{0xba7816bf, 0x8f01cfea, 0x414140de, 0x5dae2223, 0xb00361a3, 0x96177a9c, 0xb410ff61, 0xf20015ad}
	if !slices.Equal(got, want) || e != api.OK {
		t.Errorf("Block of abc = %x, %v, want %x", got, e, want)
	}
	two := append(text(64), 0x80)
	two = binary.BigEndian.AppendUint64(append(two, make([]byte, 55)...), 8*64)
	s, _ := Block(Start(), two[:64])
	s, _ = Block(s, two[64:])
	var sum []byte
	for _, x := range s {
		sum = binary.BigEndian.AppendUint32(sum, x)
	}
	if !bytes.Equal(sum, must(Of(text(64)))) {
		t.Errorf("two Blocks = %x, want %x", sum, must(Of(text(64))))
	}
}

// P2.1, P2, P3: a state that has not eight words, a block that has not 64 bytes: ErrArg, and nothing beside it.
func TestBlockRefuses(t *testing.T) {
	states := map[int][]uint32{0: nil, 1: {1}, 7: make([]uint32, 8)[:7], 8: Start(), 9: make([]uint32, 9), 16: make([]uint32, 16)}
	blocks := map[int][]byte{0: nil, 1: {1}, 63: text(64)[:63], 64: text(64), 65: text(65), 128: text(128)}
	for n, s := range states {
		for m, b := range blocks {
			got, e := Block(s, b)
			if (n != 8 || m != 64) && (len(got) != 0 || e != api.ErrArg) {
				t.Errorf("Block of %d words and %d bytes = %x, %v", n, m, got, e)
			}
			if n == 8 && m == 64 && (len(got) != 8 || e != api.OK) {
				t.Errorf("Block of %d words and %d bytes = %x, %v", n, m, got, e)
			}
		}
	}
	if got, e := Block([]uint32{}, []byte{}); len(got) != 0 || e != api.ErrArg {
		t.Errorf("Block of empty lists = %x, %v", got, e)
	}
}

// P4: Block changes neither list, and answers new memory.
func TestBlockIsNewMemory(t *testing.T) {
	s, b := Start(), text(64)
	got, _ := Block(s, b)
	clear(got)
	if !slices.Equal(s, Start()) || !bytes.Equal(b, text(64)) {
		t.Errorf("Block: what was handed in is now %x, %x", s, b)
	}
	got, _ = Block(s, b)
	clear(s)
	clear(b)
	if !slices.Equal(got, after(t, Start(), text(64))) {
		t.Errorf("Block: the answer hangs on what was handed in")
	}
}

// P2.2: New is of no bytes; Write of none leaves it so; two of them are apart.
func TestNew(t *testing.T) {
	d, other := New(), New()
	wants(t, d, nil)
	for _, b := range [][]byte{nil, {}} {
		if e := d.Write(b); e != api.OK {
			t.Errorf("Write of no bytes: %v", e)
		}
		wants(t, d, nil)
	}
	d.Write([]byte("abc"))
	wants(t, d, []byte("abc"))
	wants(t, other, nil)
}

// P2.2: Sum changes nothing: told twice it is the same, and more may come, at each edge of the filling up.
func TestMoreBehindSum(t *testing.T) {
	for _, n := range lengths() {
		for _, m := range []int{0, 1, 8, 55, 56, 63, 64, 65, 128} {
			b := text(n + m)
			d := written(t, b[:n])
			wants(t, d, b[:n])
			wants(t, d, b[:n])
			if e := d.Write(b[n:]); e != api.OK {
				t.Errorf("Write behind Sum: %v", e)
			}
			wants(t, d, b)
		}
	}
}

// P2.2, P4: what Sum answers is new memory each time.
func TestSumIsNewMemory(t *testing.T) {
	for _, n := range lengths() {
		d := written(t, text(n))
		for range 2 {
			got, _ := d.Sum()
			clear(got)
			wants(t, d, text(n))
		}
	}
}

// P4: what is written is neither changed nor kept.
func TestWriteKeepsNothing(t *testing.T) {
	for _, n := range lengths() {
		for _, m := range []int{0, 1, 63, 64, 65} {
			whole := text(n + m + 200)
			d := New()
			d.Write(whole[:n])
			d.Write(whole[n : n+m])
			d.Sum()
			d.Copy().Write([]byte("more"))
			if !bytes.Equal(whole, text(n+m+200)) {
				t.Errorf("Write of %d and %d bytes: what was handed in has changed", n, m)
			}
			clear(whole)
			wants(t, d, text(n+m))
			Of(whole[:n])
			if !bytes.Equal(whole, make([]byte, len(whole))) {
				t.Errorf("Of %d bytes: what was handed in has changed", n)
			}
		}
	}
}

// P2.2: bytes may come up to MaxBytes; what would be more is ErrLong, and nothing has changed: what still fits may come.
func TestWriteLimit(t *testing.T) {
	all := text(api.MaxBytes + 1)
	for _, n := range []int{0, 1, 63, 64, 65, api.MaxBytes - 65, api.MaxBytes - 1, api.MaxBytes} {
		d := written(t, all[:n])
		for _, m := range []int{api.MaxBytes - n + 1, api.MaxBytes - n + 64, api.MaxBytes + 1, 2 * api.MaxBytes} {
			if e := d.Write(make([]byte, m)); e != api.ErrLong {
				t.Errorf("Write of %d bytes behind %d: %v", m, n, e)
			}
			wants(t, d, all[:n])
		}
		if e := d.Write(nil); e != api.OK {
			t.Errorf("Write of no bytes behind %d: %v", n, e)
		}
		if e := d.Write(all[n:api.MaxBytes]); e != api.OK {
			t.Errorf("Write up to MaxBytes behind %d: %v", n, e)
		}
		wants(t, d, all[:api.MaxBytes])
		if e := d.Write([]byte{0}); e != api.ErrLong {
			t.Errorf("Write of one byte behind MaxBytes: %v", e)
		}
		if e := d.Copy().Write([]byte{0}); e != api.ErrLong {
			t.Errorf("Write of one byte behind MaxBytes to a copy: %v", e)
		}
	}
}

// P2.2: a copy and what it was copied from go on apart, whichever is written first, and however much is left.
func TestCopy(t *testing.T) {
	for _, n := range lengths() {
		for _, m := range []int{1, 2, 7, 63, 64, 65} {
			one, two := bytes.Repeat([]byte{0x11}, m), bytes.Repeat([]byte{0x22}, m)
			d := written(t, text(n)[:n/2])
			d.Write(text(n)[n/2:])
			c := d.Copy()
			wants(t, c, text(n))
			d.Write(one)
			wants(t, c, text(n))
			c.Write(two)
			third := c.Copy()
			third.Write(one)
			d.Write(two)
			wants(t, d, slices.Concat(text(n), one, two))
			wants(t, c, slices.Concat(text(n), two))
			wants(t, third, slices.Concat(text(n), two, one))
		}
	}
	if d := New(); d.Copy() == d {
		t.Error("Copy is the same digest")
	}
}

// P2.2, P4: two copies that only tell their sums, and then go on, do not write over what they share.
func TestCopySharesNothing(t *testing.T) {
	for n := range 130 {
		d := New()
		for _, c := range text(n) {
			d.Write([]byte{c})
		}
		copies := make([]*Digest, 4)
		for i := range copies {
			copies[i] = d.Copy()
		}
		for i, c := range copies {
			c.Write([]byte{byte(i)})
			d.Sum()
		}
		for i, c := range copies {
			wants(t, c, append(text(n), byte(i)))
		}
		wants(t, d, text(n))
	}
}

// P2.3, P1: of a nil digest, and of one that no call made: ErrZero; 0; nil. Even if what is written would be too long, and still behind a Write.
func TestNoCallMadeIt(t *testing.T) {
	var zero Digest
	for name, d := range map[string]*Digest{"nil": nil, "zero": &zero, "new": new(Digest)} {
		for range 2 {
			for _, b := range [][]byte{nil, {}, {1}, text(64), make([]byte, api.MaxBytes+1)} {
				if e := d.Write(b); e != api.ErrZero {
					t.Errorf("%s: Write of %d bytes: %v", name, len(b), e)
				}
			}
			if got, e := d.Sum(); len(got) != 0 || e != api.ErrZero {
				t.Errorf("%s: Sum = %x, %v", name, got, e)
			}
			if d.Len() != 0 {
				t.Errorf("%s: Len = %d", name, d.Len())
			}
			if c := d.Copy(); c != nil {
				t.Errorf("%s: Copy = %v", name, c)
			}
		}
	}
}

// P2.4: cut once, anywhere.
func TestCutOnce(t *testing.T) {
	for _, n := range lengths() {
		if n > 300 {
			continue
		}
		for at := range n + 1 {
			d := written(t, text(n)[:at])
			d.Write(text(n)[at:])
			wants(t, d, text(n))
		}
	}
}

// P2.4: cut twice, anywhere.
func TestCutTwice(t *testing.T) {
	b := text(131)
	for i := range len(b) + 1 {
		for j := i; j <= len(b); j++ {
			d := written(t, b[:i])
			d.Write(b[i:j])
			d.Write(b[j:])
			wants(t, d, b)
		}
	}
}

// P2.4: cut into pieces of one length, some of them copied or told between.
func TestCutIntoPieces(t *testing.T) {
	for _, n := range lengths() {
		for _, m := range []int{1, 2, 3, 7, 16, 31, 55, 56, 63, 64, 65, 127, 128, 129} {
			d := New()
			for i, p := range slices.Collect(slices.Chunk(text(n), m)) {
				d.Write(p)
				switch i % 3 {
				case 1:
					d = d.Copy()
				case 2:
					d.Sum()
				}
			}
			wants(t, d, text(n))
		}
	}
}

// P2.4: cut wherever a fuzzer wants it.
func FuzzCut(f *testing.F) {
	f.Add(text(130), 3, 64)
	f.Add([]byte{}, 0, 0)
	f.Fuzz(func(t *testing.T, b []byte, i int, j int) {
		if len(b) > api.MaxBytes {
			return
		}
		i = int(uint(i) % uint(len(b)+1))
		j = i + int(uint(j)%uint(len(b)-i+1))
		d := written(t, b[:i])
		d.Write(b[i:j])
		d.Write(b[j:])
		wants(t, d, b)
	})
}
