package pebble

import (
	"bytes"
	"crypto/hmac"
	"crypto/sha256"
	"encoding/hex"
	"math"
	"math/bits"
	"slices"
	"testing"

	"carillon/api"
	"carillon/chain"
	"carillon/kdf"
)

// text is n bytes without a short period, others for each start.
func text(n int, start int) []byte {
	b := make([]byte, n)
	for i := range b {
		k := i + 7*start
		b[i] = byte(k*k>>3 ^ k*11 ^ k>>8 ^ start<<4)
	}
	return b
}

// span is KeyBytes bytes, each one more than the one ahead.
func span(from byte) []byte {
	b := make([]byte, api.KeyBytes)
	for i := range b {
		b[i] = from + byte(i)
	}
	return b
}

// derived is the key of a label, by the library's tag.
func derived(from []byte, label string) []byte {
	h := hmac.New(sha256.New, from)
	h.Write(append([]byte(label), 0, 1))
	return h.Sum(nil)[:16]
}

// twin is the keys 0 to n of a seed, by the library's tags: the last one and n steps of it, turned round.
func twin(seed []byte, n int) [][]byte {
	row := [][]byte{derived(seed, "seed")}
	for len(row) <= n {
		row = append(row, derived(row[len(row)-1], "chain"))
	}
	slices.Reverse(row)
	return row
}

// made is a pebble that New must make.
func made(t testing.TB, seed []byte, n int) *Pebble {
	t.Helper()
	p, e := New(seed, n)
	if p == nil || e != api.OK {
		t.Fatalf("New of %d keys makes %v, %v", n, p != nil, e)
	}
	return p
}

// noNew checks that New refuses.
func noNew(t testing.TB, seed []byte, n int) {
	t.Helper()
	if p, e := New(seed, n); p != nil || e != api.ErrArg {
		t.Errorf("New of %d bytes, %d keys makes %v, %v, want %v", len(seed), n, p != nil, e, api.ErrArg)
	}
}

// tells checks that the next key is told.
func tells(t testing.TB, p *Pebble, want []byte) {
	t.Helper()
	at := p.Index()
	got, e := p.Next()
	if !bytes.Equal(got, want) || e != api.OK || p.Index() != at+1 {
		t.Fatalf("Next behind %d: %x, %v, Index %d, want %x", at, got, e, p.Index(), want)
	}
}

// commits checks what Commit tells.
func commits(t testing.TB, p *Pebble, want []byte) {
	t.Helper()
	if got := p.Commit(); !bytes.Equal(got, want) {
		t.Errorf("Commit behind %d: %x, want %x", p.Index(), got, want)
	}
}

// counts checks Index, and that Kept and Steps are within their bounds.
func counts(t testing.TB, p *Pebble, n int, told int) {
	t.Helper()
	width := bits.Len(uint(n))
	if p.Index() != told {
		t.Errorf("Index of %d keys: %d, want %d", n, p.Index(), told)
	}
	if p.Kept() < 0 || p.Kept() > width+2 {
		t.Errorf("Kept behind %d of %d: %d", told, n, p.Kept())
	}
	if p.Steps() < 0 || p.Steps() > told*width {
		t.Errorf("Steps behind %d of %d: %d", told, n, p.Steps())
	}
}

// ended checks that nothing more is told, and that asking changes nothing.
func ended(t testing.TB, p *Pebble, n int) {
	t.Helper()
	kept, steps, commit := p.Kept(), p.Steps(), p.Commit()
	for range 3 {
		if got, e := p.Next(); len(got) != 0 || e != api.ErrNone {
			t.Fatalf("Next behind all %d: %x, %v", n, got, e)
		}
		if p.Index() != n || p.Kept() != kept || p.Steps() != steps {
			t.Fatalf("Next behind all %d changes: Index %d, Kept %d, Steps %d", n, p.Index(), p.Kept(), p.Steps())
		}
		commits(t, p, commit)
	}
}

// lengths are numbers of keys: the least, the greatest, and those about each power of two.
func lengths() []int {
	out := []int{1, 2, 3, 100}
	for n := 4; n <= api.MaxKeys; n *= 2 {
		out = append(out, n-1, n)
		if n < api.MaxKeys {
			out = append(out, n+1)
		}
	}
	return out
}

// P15.1: keys worked out apart.
func TestBytes(t *testing.T) {
	for _, x := range []struct {
		n, i int
		want string
	}{
		{1, 0, "67d7caf653c38ef98ae7348b21196906"},
		{1, 1, "d8169c532aafd3932dac1e653f98aef7"},
		{5, 0, "fd6a838d6b8750d62877044ff79105cd"},
		{5, 1, "53a4a6efd7241ab94c6cbb480c532a2b"},
		{5, 2, "fceb7e61acbedbc1621e8156c9635230"},
		{5, 4, "67d7caf653c38ef98ae7348b21196906"},
		{5, 5, "d8169c532aafd3932dac1e653f98aef7"},
		{16, 0, "338f63c69f7b4badaa8ebbf2d9d8b8c9"},
		{16, 1, "5ebdbed627b01e99a7b5094414770f9e"},
		{16, 2, "be814e9078b5ebb5c9e796a52d8598b6"},
		{16, 8, "e18d7a64bf656a2820037118d8025e3d"},
		{16, 15, "67d7caf653c38ef98ae7348b21196906"},
		{16, 16, "d8169c532aafd3932dac1e653f98aef7"},
		{256, 0, "de3b53b00c5fd1e6f0521a0d2e5aa195"},
		{256, 1, "d2891f5d41a7220089d5589ad57f014b"},
		{256, 2, "02e08e3b142af99d7eb936af1457d711"},
		{256, 128, "ad26f29b4ed3033154f8d15996458ffa"},
		{256, 255, "67d7caf653c38ef98ae7348b21196906"},
		{256, 256, "d8169c532aafd3932dac1e653f98aef7"},
	} {
		p := made(t, span(0x40), x.n)
		got := p.Commit()
		for range x.i {
			got, _ = p.Next()
		}
		if hex.EncodeToString(got) != x.want {
			t.Errorf("key %d of %d: %x, want %s", x.i, x.n, got, x.want)
		}
	}
}

// P15.1: chains of every length there is: each key, and Index, Kept, Steps and Commit ahead of the first Next, between two and behind the last.
func TestEveryLength(t *testing.T) {
	for n := 1; n <= api.MaxKeys; n++ {
		seed := text(api.KeyBytes, n)
		want := twin(seed, n)
		p := made(t, seed, n)
		counts(t, p, n, 0)
		commits(t, p, want[0])
		for i := 1; i <= n; i++ {
			tells(t, p, want[i])
			counts(t, p, n, i)
			commits(t, p, want[0])
		}
		ended(t, p, n)
	}
}

// P15.1, P15.3: what is told is what package chain tells, and each key steps to the one told ahead of it, the first one to the commitment.
func TestChains(t *testing.T) {
	for _, n := range lengths() {
		seed := text(api.KeyBytes, n+1000)
		keys, _ := chain.All(seed, n)
		p := made(t, seed, n)
		ahead := p.Commit()
		for i := 1; i <= n; i++ {
			key, e := p.Next()
			want, _ := chain.Key(seed, n, i)
			if e != api.OK || !bytes.Equal(key, keys[i]) || !bytes.Equal(key, want) {
				t.Fatalf("Next %d of %d: %x, %v, want %x", i, n, key, e, want)
			}
			step, _ := kdf.Step(key)
			if !bytes.Equal(step, ahead) {
				t.Fatalf("key %d of %d steps to %x, ahead of it was %x", i, n, step, ahead)
			}
			if e := chain.Follows(0, p.Commit(), i, key); e != api.OK {
				t.Fatalf("key %d of %d does not follow the commitment: %v", i, n, e)
			}
			ahead = key
		}
	}
}

// P15.1: asking changes nothing.
func TestAskingChangesNothing(t *testing.T) {
	want := twin(span(3), 40)
	p, quiet := made(t, span(3), 40), made(t, span(3), 40)
	for i := 1; i <= 40; i++ {
		for range 3 {
			p.Index()
			p.Kept()
			p.Steps()
			p.Commit()
		}
		tells(t, p, want[i])
		tells(t, quiet, want[i])
		if p.Kept() != quiet.Kept() || p.Steps() != quiet.Steps() {
			t.Errorf("behind %d: Kept %d and %d, Steps %d and %d", i, p.Kept(), quiet.Kept(), p.Steps(), quiet.Steps())
		}
	}
}

// P15.1: the chapter's example: of 16 keys at most 7 are kept, at any time.
func TestExample(t *testing.T) {
	p := made(t, span(1), 16)
	for i := 0; ; i++ {
		if p.Kept() > 7 {
			t.Errorf("Kept behind %d of 16: %d", i, p.Kept())
		}
		if _, e := p.Next(); e != api.OK {
			break
		}
	}
	if p.Index() != 16 {
		t.Errorf("Index: %d, want 16", p.Index())
	}
}

// P15.1: the steps of New do not count, and those of the Nexts do: each key that New did not keep takes a step at least.
func TestStepsCounted(t *testing.T) {
	for n := 1; n <= api.MaxKeys; n++ {
		p := made(t, span(1), n)
		if p.Steps() != 0 {
			t.Errorf("Steps of %d keys behind New: %d", n, p.Steps())
		}
		kept := p.Kept()
		for i := 1; i <= n; i++ {
			p.Next()
			if p.Steps() < i-kept {
				t.Fatalf("Steps behind %d of %d, of which %d were kept: %d", i, n, kept, p.Steps())
			}
		}
	}
}

// P15.1: Kept is the number of keys that lie there, each one the chain's at its place, none that was told; Steps grows by just the way from the lowest of them to the key that is told; the room is kept within a Next too.
func TestStack(t *testing.T) {
	for _, n := range lengths() {
		want := twin(span(7), n)
		p := made(t, span(7), n)
		for told := range n {
			if len(p.stack) != p.Kept() || p.Kept() == 0 {
				t.Fatalf("behind %d of %d: Kept %d, of %d", told, n, p.Kept(), len(p.stack))
			}
			above := n + 1
			for _, s := range p.stack {
				if s.place <= told || s.place >= above || !bytes.Equal(s.key, want[s.place]) {
					t.Fatalf("behind %d of %d: %x at %d, below %d", told, n, s.key, s.place, above)
				}
				above = s.place
			}
			within, steps := *p, p.Steps()
			within.reach()
			if len(within.stack) > bits.Len(uint(n))+2 {
				t.Fatalf("within the Next behind %d of %d: %d kept", told, n, len(within.stack))
			}
			p.Next()
			if way := above - (told + 1); p.Steps()-steps != way {
				t.Fatalf("Next behind %d of %d: %d steps, the way is %d", told, n, p.Steps()-steps, way)
			}
		}
		if p.Kept() != 0 || len(p.stack) != 0 {
			t.Errorf("behind all %d: Kept %d", n, p.Kept())
		}
	}
}

// P15.1: Next when all were told, and once more, of the least chain, the greatest, and one between.
func TestEnd(t *testing.T) {
	for _, n := range []int{1, 2, 31, api.MaxKeys} {
		p := made(t, span(2), n)
		for i := range n {
			if _, e := p.Next(); e != api.OK {
				t.Fatalf("Next behind %d of %d: %v", i, n, e)
			}
		}
		ended(t, p, n)
		commits(t, p, twin(span(2), n)[0])
	}
}

// noKeys are lists that have not KeyBytes.
func noKeys() [][]byte {
	out := [][]byte{nil, {}, span(0)[:0]}
	for _, n := range []int{1, 8, api.KeyBytes - 1, api.KeyBytes + 1, 2 * api.KeyBytes, 64, 256 + api.KeyBytes, 1<<16 + api.KeyBytes} {
		out = append(out, text(n, 1))
	}
	return out
}

// noLengths are numbers that no chain has keys.
func noLengths() []int {
	return []int{
		0, -1, -2, -16, -api.MaxKeys, math.MinInt32, math.MinInt + 1, math.MinInt,
		api.MaxKeys + 1, api.MaxKeys + 2, 2 * api.MaxKeys, 1 << 16, math.MaxInt32, 1 << 32, 1<<32 + 8, math.MaxInt - 1, math.MaxInt,
	}
}

// P15.1, P1, P2, P3, P6: a seed that has not KeyBytes, a number of keys that can't be, both.
func TestNewRefuses(t *testing.T) {
	for _, seed := range noKeys() {
		for _, n := range append(noLengths(), lengths()...) {
			noNew(t, seed, n)
		}
	}
	for _, n := range noLengths() {
		noNew(t, span(1), n)
	}
}

// P15.1: any seed of KeyBytes is taken.
func TestSeeds(t *testing.T) {
	for _, seed := range [][]byte{make([]byte, api.KeyBytes), bytes.Repeat([]byte{0xff}, api.KeyBytes), text(api.KeyBytes, 5)} {
		want := twin(seed, 12)
		p := made(t, seed, 12)
		commits(t, p, want[0])
		for _, key := range want[1:] {
			tells(t, p, key)
		}
	}
}

// P15.2, P1: every call of a nil pebble, and of one that no call made, again and again.
func TestZero(t *testing.T) {
	for at, p := range []*Pebble{nil, new(Pebble), {}} {
		for range 3 {
			if got, e := p.Next(); len(got) != 0 || e != api.ErrZero {
				t.Errorf("%d: Next = %x, %v, want %v", at, got, e, api.ErrZero)
			}
			if p.Index() != 0 || p.Kept() != 0 || p.Steps() != 0 || len(p.Commit()) != 0 {
				t.Errorf("%d: Index %d, Kept %d, Steps %d, Commit %x", at, p.Index(), p.Kept(), p.Steps(), p.Commit())
			}
		}
	}
}

// P15.2: what New answers beside an error is a nil pebble, which is answered like one.
func TestRefusedIsZero(t *testing.T) {
	p, _ := New(span(1), 0)
	if got, e := p.Next(); len(got) != 0 || e != api.ErrZero || p.Index() != 0 || len(p.Commit()) != 0 {
		t.Errorf("Next = %x, %v", got, e)
	}
}

// behind is a list with bytes behind it that are the caller's.
func behind(b []byte) []byte {
	return append(slices.Clone(b), bytes.Repeat([]byte{0xee}, 64)...)[:len(b)]
}

// spoil changes a list, and the memory behind it.
func spoil(b []byte) {
	for i := range b[:cap(b)] {
		b[:cap(b)][i] ^= 0xff
	}
}

// P4: the seed is not changed, nor what is behind it; changed behind New, it changes no answer.
func TestSeedNotKept(t *testing.T) {
	for _, n := range lengths() {
		seed := behind(span(3))
		p := made(t, seed, n)
		if want := behind(span(3)); !bytes.Equal(seed[:cap(want)], want[:cap(want)]) {
			t.Errorf("New of %d changed the seed", n)
		}
		spoil(seed)
		want := twin(span(3), n)
		commits(t, p, want[0])
		for i := 1; i <= n; i++ {
			tells(t, p, want[i])
			spoil(seed)
		}
		commits(t, p, want[0])
	}
}

// P4: a seed that is refused is not changed either.
func TestRefusedSeedUnchanged(t *testing.T) {
	for _, b := range noKeys() {
		seed := behind(b)
		New(seed, 8)
		if want := behind(b); !bytes.Equal(seed[:cap(want)], want[:cap(want)]) {
			t.Errorf("New changed a seed of %d bytes", len(b))
		}
	}
}

// P4: a key or a commitment that was told and is changed later changes no other answer.
func TestToldIsNew(t *testing.T) {
	for _, n := range lengths() {
		want := twin(span(3), n)
		p := made(t, span(3), n)
		spoil(p.Commit())
		for i := 1; i <= n; i++ {
			key, e := p.Next()
			if !bytes.Equal(key, want[i]) || e != api.OK {
				t.Fatalf("Next %d of %d: %x, %v", i, n, key, e)
			}
			spoil(key)
			commits(t, p, want[0])
			spoil(p.Commit())
		}
		commits(t, p, want[0])
	}
}

// P4: what was told stays as it was, whatever is asked later.
func TestToldStays(t *testing.T) {
	want := twin(span(3), 100)
	p := made(t, span(3), 100)
	told := [][]byte{p.Commit()}
	for key, e := p.Next(); e == api.OK; key, e = p.Next() {
		told = append(told, key)
	}
	if !slices.EqualFunc(told, want, bytes.Equal) {
		t.Errorf("what was told has changed")
	}
}

// P5: pebbles side by side, of one seed, of another and of another length, one ahead of the other, tell each their own.
func TestSideBySide(t *testing.T) {
	one, two := made(t, span(3), 50), made(t, span(3), 50)
	other, shorter := made(t, span(4), 50), made(t, span(3), 49)
	want, wantOther, wantShorter := twin(span(3), 50), twin(span(4), 50), twin(span(3), 49)
	for i := 1; i <= 25; i++ {
		tells(t, one, want[2*i-1])
		tells(t, two, want[i])
		tells(t, one, want[2*i])
		tells(t, other, wantOther[i])
		tells(t, shorter, wantShorter[i])
	}
	ended(t, one, 50)
	for i := 26; i <= 50; i++ {
		tells(t, two, want[i])
		tells(t, other, wantOther[i])
	}
	if one.Steps() != two.Steps() || one.Kept() != two.Kept() {
		t.Errorf("Steps %d and %d, Kept %d and %d", one.Steps(), two.Steps(), one.Kept(), two.Kept())
	}
	commits(t, one, want[0])
	commits(t, other, wantOther[0])
	commits(t, shorter, wantShorter[0])
}

// P5: a pebble that is copied at any index and the copy go on apart.
func TestCopied(t *testing.T) {
	want := twin(span(3), 40)
	for at := range 41 {
		for _, first := range []bool{true, false} {
			p := made(t, span(3), 40)
			for i := range at {
				tells(t, p, want[i+1])
			}
			copied := *p
			a, b := p, &copied
			if !first {
				a, b = b, a
			}
			for i := at + 1; i <= 40; i++ {
				tells(t, a, want[i])
				if i%3 == 0 {
					tells(t, b, want[b.Index()+1])
				}
			}
			for b.Index() < 40 {
				tells(t, b, want[b.Index()+1])
			}
			if a.Steps() != b.Steps() {
				t.Fatalf("copied at %d: Steps %d and %d", at, a.Steps(), b.Steps())
			}
		}
	}
}

// P4, P5: a key that one of them told and that is changed later changes nothing that the other one tells.
func TestCopiedToldIsNew(t *testing.T) {
	want := twin(span(3), 40)
	for at := range 40 {
		p := made(t, span(3), 40)
		for i := range at {
			tells(t, p, want[i+1])
		}
		copied := *p
		for i := at + 1; i <= 40; i++ {
			key, _ := p.Next()
			spoil(key)
			spoil(p.Commit())
			tells(t, &copied, want[i])
		}
		commits(t, &copied, want[0])
	}
}

// P15.1 to P15.3, P1: whatever is asked, the twin tells the same.
func FuzzAll(f *testing.F) {
	f.Add(span(3), 16, 20)
	f.Add([]byte{}, 0, 1)
	f.Add(span(0), api.MaxKeys, api.MaxKeys+2)
	f.Add(span(0)[:15], api.MaxKeys+1, 3)
	f.Add(span(9), 1, 0)
	f.Fuzz(func(t *testing.T, seed []byte, n int, asked int) {
		if len(seed) != api.KeyBytes || n < 1 || n > api.MaxKeys {
			noNew(t, seed, n)
			return
		}
		want := twin(seed, n)
		p := made(t, seed, n)
		for i := range min(max(asked, 0), n) {
			counts(t, p, n, i)
			tells(t, p, want[i+1])
		}
		counts(t, p, n, min(max(asked, 0), n))
		commits(t, p, want[0])
		if asked >= n {
			ended(t, p, n)
		}
	})
}
