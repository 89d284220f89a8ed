package tesla

import (
	"bytes"
	"errors"
	"fmt"
	"math"
	"math/rand"
	"reflect"
	"slices"
	"testing"

	"carillon/api"
	"carillon/chain"
	"carillon/frame"
	"carillon/kdf"
	"carillon/seal"
)

// The limits as the document writes them.
const (
	epochs   = 65535
	rounds20 = 1 << 20
	end40    = 1 << 40
	key16    = 16
)

// usual is a config that is right, with rounds of 1200.
func usual() api.Config {
	return api.Config{N: 3, Slot: 400, Delay: 1, Keys: 16, E: 400, Window: 400, Rho: 1, Slew: 2, Cap: 8}
}

// sizes are configs that are right: the least, the greatest, and one of each number of nodes.
func sizes() []api.Config {
	all := []api.Config{
		usual(),
		{N: 1, Slot: 300, Delay: 1, Keys: 5, E: 1, Window: 100, Cap: 1},
		{N: 8, F: 2, Slot: 10000, Delay: 4, Keys: 256, E: 40000, Window: 40000, Rho: 5, Slew: 5, Cap: 64},
	}
	for n := 1; n <= 8; n++ {
		all = append(all, api.Config{N: n, F: (n - 1) / 3, Slot: 300 + 97*n, Delay: 1 + n%4, Keys: 8 + 3*n, E: 150 * n, Window: 100 + 101*n, Rho: n % 6, Slew: (n * 5) % 6, Cap: 1 + 4*(n-1)})
	}
	return all
}

// key is a key of one byte again and again.
func key(n byte) []byte {
	return bytes.Repeat([]byte{n}, key16)
}

// keysOf tells the keys of a chain, another one for each seed.
func keysOf(t testing.TB, seed byte, n int) [][]byte {
	t.Helper()
	all, e := chain.All(key(seed), n)
	if e != api.OK || len(all) != n+1 {
		t.Fatalf("chain.All: %v", e)
	}
	return all
}

// when is the time at which a node's slot begins in which the key of a round is told.
func when(c api.Config, from int, round int) int64 {
	return int64(round+c.Delay)*int64(c.N)*int64(c.Slot) + int64(from)*int64(c.Slot)
}

// sealed is a data frame as bytes.
func sealed(t testing.TB, from int, epoch int, round int, body string, with []byte) []byte {
	t.Helper()
	b, e := seal.Seal(api.Frame{Kind: api.FData, From: from, Epoch: epoch, Round: round, View: round % 256, Index: round % 257, Key: key(byte(round)), Body: []byte(body)}, with)
	if e != api.OK {
		t.Fatalf("Seal of round %d: %v", round, e)
	}
	return b
}

// item is bytes that wait, by the chapter's words.
type item struct {
	epoch int
	index int
	text  string
}

// words is a receiver by the chapter's words: what waits is a list, and all that was released is remembered.
type words struct {
	c        api.Config
	from     int
	anchored bool
	epoch    int
	start    int
	index    int
	key      string
	list     []item
	released []api.Frame
}

// back steps a key down so many times.
func back(b []byte, n int) string {
	for range n {
		b, _ = kdf.Step(b)
	}
	return string(b)
}

func (w *words) last() int {
	if len(w.released) == 0 {
		return -1
	}
	return w.released[len(w.released)-1].Round
}

func (w *words) anchor(epoch int, start int, index int, k []byte) api.Errno {
	if epoch < 0 || epoch > 65535 || start < 0 || start > 1048575 || index < 0 || index > w.c.Keys || len(k) != 16 {
		return api.ErrArg
	}
	if w.anchored && w.epoch > epoch {
		return api.ErrOld
	}
	if !w.anchored || epoch > w.epoch {
		w.anchored, w.epoch, w.start, w.index, w.key = true, epoch, start, index, string(k)
		w.list = nil
		return api.OK
	}
	if start != w.start {
		return api.ErrKey
	}
	if index > w.index {
		if back(k, index-w.index) != w.key {
			return api.ErrKey
		}
		w.index, w.key = index, string(k)
		return api.OK
	}
	if back([]byte(w.key), w.index-index) != string(k) {
		return api.ErrKey
	}
	return api.OK
}

// secret refuses a round without a key, and one whose key may be told.
func (w *words) secret(round int, most int64) api.Errno {
	i := round - w.start
	if round > 1048575 {
		return api.ErrArg
	}
	if i < 1 || i > w.c.Keys {
		return api.ErrNone
	}
	if most < 0 || most > 1099511627776 || round+w.c.Delay > 1048575 {
		return api.ErrArg
	}
	if most >= when(w.c, w.from, round) {
		return api.ErrLate
	}
	return api.OK
}

// count tells how many wait of an index; those that wait are all of the anchor's epoch.
func (w *words) count(index int) int {
	n := 0
	for _, x := range w.list {
		if x.index == index {
			n++
		}
	}
	return n
}

// room throws out the newest of the first index with the most, unless that index, or one with as many, is its own.
func (w *words) room(own int) api.Errno {
	most := 0
	for _, x := range w.list {
		most = max(most, w.count(x.index))
	}
	if w.count(own) == most {
		return api.ErrFull
	}
	for _, first := range w.list {
		if w.count(first.index) != most {
			continue
		}
		newest := 0
		for at, x := range w.list {
			if x.index == first.index {
				newest = at
			}
		}
		w.list = append(append([]item{}, w.list[:newest]...), w.list[newest+1:]...)
		break
	}
	return api.OK
}

func (w *words) offer(b []byte, most int64) api.Errno {
	f, e := frame.Get(b)
	if e != api.OK {
		return e
	}
	if f.Kind != 1 || f.From != w.from {
		return api.ErrArg
	}
	if !w.anchored || f.Epoch != w.epoch {
		return api.ErrNone
	}
	if f.Round <= w.last() {
		return api.ErrOld
	}
	if e := w.secret(f.Round, most); e != api.OK {
		return e
	}
	for _, x := range w.list {
		if x.text == string(b) {
			return api.ErrForm
		}
	}
	if len(w.list) == w.c.Cap {
		if e := w.room(f.Round - w.start); e != api.OK {
			return e
		}
	}
	w.list = append(w.list, item{f.Epoch, f.Round - w.start, string(b)})
	return api.OK
}

func (w *words) tell(epoch int, index int, k []byte) ([]api.Frame, api.Errno) {
	if !w.anchored || epoch != w.epoch {
		return nil, api.ErrNone
	}
	if index < 0 || index > w.c.Keys || len(k) != 16 {
		return nil, api.ErrArg
	}
	if index <= w.index {
		return nil, api.ErrOld
	}
	if back(k, index-w.index) != w.key {
		return nil, api.ErrKey
	}
	old := w.index
	w.index, w.key = index, string(k)
	before := len(w.released)
	for i := old + 1; i <= index; i++ {
		w.releaseOf(i, []byte(back(k, index-i)))
	}
	return w.released[before:], api.OK
}

// releaseOf takes out what waits of an index, and releases the first whose tag holds.
func (w *words) releaseOf(index int, k []byte) {
	var stay []item
	found := false
	for _, x := range w.list {
		if x.index != index {
			stay = append(stay, x)
			continue
		}
		f, _ := frame.Get([]byte(x.text))
		tag, _ := seal.Tag(f, k)
		if !found && bytes.Equal(tag, f.Tag) {
			found = true
			if f.Round > w.last() {
				w.released = append(w.released, f)
			}
		}
	}
	w.list = stay
}

// made is a receiver that New makes.
func made(t testing.TB, c api.Config, from int) *Receiver {
	t.Helper()
	r, e := New(c, from)
	if r == nil || e != api.OK {
		t.Fatalf("New(%+v, %d) = %v, %v", c, from, r, e)
	}
	tells(t, r, -1, -1, 0, -1)
	return r
}

// tells checks what a receiver tells.
func tells(t testing.TB, r *Receiver, epoch int, index int, waiting int, last int) {
	t.Helper()
	if r.Epoch() != epoch || r.Index() != index || r.Waiting() != waiting || r.Last() != last {
		t.Fatalf("Epoch %d, Index %d, Waiting %d, Last %d, want %d, %d, %d, %d", r.Epoch(), r.Index(), r.Waiting(), r.Last(), epoch, index, waiting, last)
	}
}

// same checks that frames are what they ought to be.
func same(t testing.TB, got []api.Frame, want []api.Frame) {
	t.Helper()
	if !slices.EqualFunc(got, want, frame.Same) {
		t.Fatalf("released %+v, want %+v", got, want)
	}
}

// pair is a receiver, and the same one by the chapter's words.
type pair struct {
	r *Receiver
	w *words
}

func newPair(t testing.TB, c api.Config, from int) pair {
	t.Helper()
	return pair{made(t, c, from), &words{c: c, from: from}}
}

// holds checks what the receiver tells against the words.
func (p pair) holds(t testing.TB) {
	t.Helper()
	epoch, index := -1, -1
	if p.w.anchored {
		epoch, index = p.w.epoch, p.w.index
	}
	tells(t, p.r, epoch, index, len(p.w.list), p.w.last())
}

// anchor lets both take an anchor, and holds the answer against the words.
func (p pair) anchor(t testing.TB, epoch int, start int, index int, k []byte) api.Errno {
	t.Helper()
	before := bytes.Clone(k)
	e := p.r.Anchor(epoch, start, index, k)
	if want := p.w.anchor(epoch, start, index, k); e != want {
		t.Fatalf("Anchor(%d, %d, %d, %x): %v, want %v", epoch, start, index, k, e, want)
	}
	if !bytes.Equal(k, before) {
		t.Fatalf("Anchor has changed the key %x to %x", before, k)
	}
	p.holds(t)
	return e
}

// offer offers bytes to both, and holds the answer against the words.
func (p pair) offer(t testing.TB, b []byte, most int64) api.Errno {
	t.Helper()
	before := bytes.Clone(b)
	e := p.r.Offer(b, most)
	if want := p.w.offer(b, most); e != want {
		t.Fatalf("Offer(%x, %d): %v, want %v", b, most, e, want)
	}
	if !bytes.Equal(b, before) {
		t.Fatalf("Offer has changed %x to %x", before, b)
	}
	p.holds(t)
	return e
}

// tell tells both a key, and holds what is released against the words, and against what was released ahead of it.
func (p pair) tell(t testing.TB, epoch int, index int, k []byte) ([]api.Frame, api.Errno) {
	t.Helper()
	before, last := bytes.Clone(k), p.r.Last()
	got, e := p.r.Tell(epoch, index, k)
	want, wantE := p.w.tell(epoch, index, k)
	if e != wantE {
		t.Fatalf("Tell(%d, %d, %x): %v, want %v", epoch, index, k, e, wantE)
	}
	same(t, got, want)
	if !bytes.Equal(k, before) {
		t.Fatalf("Tell has changed the key %x to %x", before, k)
	}
	for _, f := range got {
		if f.Round <= last {
			t.Fatalf("round %d is released behind %d", f.Round, last)
		}
		last = f.Round
	}
	p.holds(t)
	return got, e
}

// anchors checks what Anchor answers.
func (p pair) anchors(t testing.TB, want api.Errno, epoch int, start int, index int, k []byte) {
	t.Helper()
	if e := p.anchor(t, epoch, start, index, k); e != want {
		t.Fatalf("Anchor(%d, %d, %d, %x): %v, want %v", epoch, start, index, k, e, want)
	}
}

// offers checks what Offer answers.
func (p pair) offers(t testing.TB, want api.Errno, b []byte, most int64) {
	t.Helper()
	if e := p.offer(t, b, most); e != want {
		t.Fatalf("Offer(%x, %d): %v, want %v", b, most, e, want)
	}
}

// releases checks what Tell answers: of each frame its body, or an error and none.
func (p pair) releases(t testing.TB, want api.Errno, epoch int, index int, k []byte, bodies ...string) {
	t.Helper()
	l, e := p.tell(t, epoch, index, k)
	if e != want || len(l) != len(bodies) {
		t.Fatalf("Tell(%d, %d, %x) = %d frames, %v, want %q, %v", epoch, index, k, len(l), e, bodies, want)
	}
	for at, f := range l {
		if string(f.Body) != bodies[at] {
			t.Fatalf("Tell(%d, %d, %x): %q is released, want %q", epoch, index, k, f.Body, bodies[at])
		}
	}
}

// stays lets acts be done and checks that what the receiver tells is as ahead of them.
func stays(t testing.TB, r *Receiver, acts func()) {
	t.Helper()
	epoch, index, waiting, last := r.Epoch(), r.Index(), r.Waiting(), r.Last()
	acts()
	tells(t, r, epoch, index, waiting, last)
}

// P21.2, P21.3: the chapter's example.
func TestExample(t *testing.T) {
	c := usual()
	k := keysOf(t, 1, c.Keys)
	p := newPair(t, c, 2)
	p.anchors(t, api.OK, 0, 3, 0, k[0])
	p.offers(t, api.OK, sealed(t, 2, 0, 6, "a bell", k[3]), when(c, 2, 6)-1)
	tells(t, p.r, 0, 0, 1, -1)
	p.releases(t, api.OK, 0, 3, k[3], "a bell")
	tells(t, p.r, 0, 3, 0, 6)
}

// P21.1: each node of each config has a receiver, which has neither an anchor nor frames.
func TestNew(t *testing.T) {
	for _, c := range sizes() {
		for from := range c.N {
			made(t, c, from)
		}
		for _, from := range []int{-1, -2, c.N, c.N + 1, -c.N, 8, 9, 256, 1 << 32, 1<<32 + 1, math.MinInt, math.MinInt + 1, math.MaxInt, math.MinInt32, math.MaxInt32} {
			if r, e := New(c, from); r != nil || e != api.ErrArg {
				t.Errorf("New(%+v, %d) = %v, %v", c, from, r, e)
			}
		}
	}
}

// P21.1: configs that are not right, each by one number.
func TestNewWrongConfig(t *testing.T) {
	wrong := []func(c *api.Config, bad int){
		func(c *api.Config, bad int) { c.N = bad },
		func(c *api.Config, bad int) { c.F = bad },
		func(c *api.Config, bad int) { c.Slot = bad },
		func(c *api.Config, bad int) { c.Delay = bad },
		func(c *api.Config, bad int) { c.Keys = bad },
		func(c *api.Config, bad int) { c.E = bad },
		func(c *api.Config, bad int) { c.Window = bad },
		func(c *api.Config, bad int) { c.Rho = bad },
		func(c *api.Config, bad int) { c.Slew = bad },
		func(c *api.Config, bad int) { c.Cap = bad },
	}
	for field, set := range wrong {
		for _, bad := range []int{-1, 10001, math.MinInt, math.MaxInt, math.MinInt32, math.MaxInt32} {
			c := usual()
			set(&c, bad)
			for _, from := range []int{0, 2, -1} {
				if r, e := New(c, from); r != nil || e != api.ErrArg {
					t.Errorf("New with %d in field %d: %v, %v", bad, field, r, e)
				}
			}
		}
	}
	for _, c := range []api.Config{
		{},
		{N: 9, Slot: 400, Delay: 1, Keys: 16, E: 400, Window: 400, Cap: 8},
		{N: 3, F: 1, Slot: 400, Delay: 1, Keys: 16, E: 400, Window: 400, Cap: 8},
		{N: 3, Slot: 299, Delay: 1, Keys: 16, E: 400, Window: 400, Cap: 8},
		{N: 3, Slot: 400, Delay: 5, Keys: 16, E: 400, Window: 400, Cap: 8},
		{N: 3, Slot: 400, Delay: 1, Keys: 4, E: 400, Window: 400, Cap: 8},
		{N: 3, Slot: 400, Delay: 1, Keys: 257, E: 400, Window: 400, Cap: 8},
		{N: 3, Slot: 400, Delay: 1, Keys: 16, E: 1601, Window: 400, Cap: 8},
		{N: 3, Slot: 400, Delay: 1, Keys: 16, E: 400, Window: 99, Cap: 8},
		{N: 3, Slot: 400, Delay: 1, Keys: 16, E: 400, Window: 400, Rho: 6, Cap: 8},
		{N: 3, Slot: 400, Delay: 1, Keys: 16, E: 400, Window: 400, Slew: 6, Cap: 8},
		{N: 3, Slot: 400, Delay: 1, Keys: 16, E: 400, Window: 400, Cap: 0},
		{N: 3, Slot: 400, Delay: 1, Keys: 16, E: 400, Window: 400, Cap: 65},
	} {
		if r, e := New(c, 0); r != nil || e != api.ErrArg {
			t.Errorf("New(%+v, 0) = %v, %v", c, r, e)
		}
	}
}

// P21.1: a first anchor, at the ends of its numbers. Its key may be any.
func TestAnchorEnds(t *testing.T) {
	for _, c := range sizes() {
		for _, epoch := range []int{0, 1, 255, 256, 32768, epochs - 1, epochs} {
			for _, start := range []int{0, 1, 65535, rounds20 - 2, rounds20 - 1} {
				for _, index := range []int{0, 1, c.Keys - 1, c.Keys} {
					p := newPair(t, c, c.N-1)
					p.anchors(t, api.OK, epoch, start, index, key(7))
					tells(t, p.r, epoch, index, 0, -1)
					p.anchors(t, api.OK, epoch, start, index, key(7))
					p.anchors(t, api.ErrKey, epoch, start, index, key(8))
				}
			}
		}
	}
}

// noEpochs and noStarts are numbers that no anchor has; noIndexes are those of a config.
var (
	noEpochs = []int{-1, -2, epochs + 1, epochs + 2, -epochs, 1 << 32, 1<<32 + 1, math.MinInt, math.MinInt + 1, math.MaxInt, math.MaxInt - 1, math.MinInt32, math.MaxInt32}
	noStarts = []int{-1, -2, rounds20, rounds20 + 1, -rounds20, 1 << 32, 1<<32 + 1, math.MinInt, math.MaxInt, math.MinInt32, math.MaxInt32}
)

func noIndexes(c api.Config) []int {
	return []int{-1, -2, c.Keys + 1, c.Keys + 2, -c.Keys, 257, 1 << 16, 1 << 32, 1<<32 + 1, math.MinInt, math.MaxInt, math.MinInt32, math.MaxInt32}
}

// noKeys are lists that are no key.
func noKeys() [][]byte {
	return [][]byte{nil, {}, {1}, make([]byte, key16-1), make([]byte, key16+1), make([]byte, 2*key16), make([]byte, 256+key16), make([]byte, 1<<16)}
}

// P21.1, P6: beyond the ends there is no anchor, without one and with one; nothing changes.
func TestAnchorBeyond(t *testing.T) {
	for _, c := range sizes() {
		k := keysOf(t, 3, c.Keys)
		bare, full := newPair(t, c, 0), newPair(t, c, 0)
		full.anchors(t, api.OK, 9, 20, 2, k[2])
		full.offers(t, api.OK, sealed(t, 0, 9, 23, "waits", k[3]), 0)
		for _, p := range []pair{bare, full} {
			stays(t, p.r, func() {
				for _, epoch := range noEpochs {
					p.anchors(t, api.ErrArg, epoch, 20, 3, k[3])
				}
				for _, start := range noStarts {
					p.anchors(t, api.ErrArg, 9, start, 3, k[3])
					p.anchors(t, api.ErrArg, 10, start, 3, k[3])
				}
				for _, index := range noIndexes(c) {
					p.anchors(t, api.ErrArg, 9, 20, index, k[3])
					p.anchors(t, api.ErrArg, 10, 20, index, k[3])
				}
				for _, bad := range noKeys() {
					p.anchors(t, api.ErrArg, 9, 20, 3, bad)
					p.anchors(t, api.ErrArg, 10, 20, 3, bad)
				}
			})
		}
		full.releases(t, api.OK, 9, 3, k[3], "waits")
	}
}

// P21.1: an anchor of a lesser epoch is too old, whatever else it has.
func TestAnchorLesserEpoch(t *testing.T) {
	c := usual()
	k := keysOf(t, 4, c.Keys)
	p := newPair(t, c, 1)
	p.anchors(t, api.OK, 100, 50, 3, k[3])
	p.offers(t, api.OK, sealed(t, 1, 100, 54, "waits", k[4]), 0)
	stays(t, p.r, func() {
		for _, epoch := range []int{0, 1, 98, 99} {
			p.anchors(t, api.ErrOld, epoch, 50, 3, k[3])
			p.anchors(t, api.ErrOld, epoch, 50, 5, k[5])
			p.anchors(t, api.ErrOld, epoch, 50, 0, k[0])
			p.anchors(t, api.ErrOld, epoch, 51, 3, key(9))
		}
	})
	p.releases(t, api.OK, 100, 4, k[4], "waits")
}

// P21.1: an anchor of a greater epoch is the anchor, whatever start, index and key it has; all that waits is dropped. Its frames may wait then, those of the old one no more.
func TestAnchorGreaterEpoch(t *testing.T) {
	c := usual()
	k, l := keysOf(t, 5, c.Keys), keysOf(t, 6, c.Keys)
	for _, epoch := range []int{101, 102, epochs} {
		for _, start := range []int{0, 49, 50, 51, 1000} {
			for _, index := range []int{0, 2, 3, 4, c.Keys - 1} {
				p := newPair(t, c, 1)
				p.anchors(t, api.OK, 100, 50, 3, k[3])
				for i := range 3 {
					p.offers(t, api.OK, sealed(t, 1, 100, 54+i, "old", k[4+i]), 0)
				}
				p.anchors(t, api.OK, epoch, start, index, l[index])
				tells(t, p.r, epoch, index, 0, -1)
				p.offers(t, api.ErrNone, sealed(t, 1, 100, 54, "old", k[4]), 0)
				p.releases(t, api.ErrNone, 100, 4, k[4])
				p.offers(t, api.OK, sealed(t, 1, epoch, start+index+1, "new", l[index+1]), 0)
				p.releases(t, api.ErrKey, epoch, index+1, k[index+1])
				p.releases(t, api.OK, epoch, index+1, l[index+1], "new")
				tells(t, p.r, epoch, index+1, 0, start+index+1)
			}
		}
	}
}

// P21.1: an anchor of its own epoch: another start is no key of that chain, ahead of all that its index and key say; a later key that follows is the anchor's, one that is not later only has to lead there.
func TestAnchorOwnEpoch(t *testing.T) {
	c := usual()
	k, l := keysOf(t, 7, c.Keys), keysOf(t, 8, c.Keys)
	p := newPair(t, c, 1)
	p.anchors(t, api.OK, 5, 10, 6, k[6])
	stays(t, p.r, func() {
		for _, start := range []int{0, 9, 11, rounds20 - 1} {
			for i := range k {
				p.anchors(t, api.ErrKey, 5, start, i, k[i])
				p.anchors(t, api.ErrKey, 5, start, i, l[i])
			}
		}
		for i := range 7 {
			p.anchors(t, api.OK, 5, 10, i, k[i])
		}
		for i := range k {
			p.anchors(t, api.ErrKey, 5, 10, i, l[i])
			for j := range k {
				if j != i {
					p.anchors(t, api.ErrKey, 5, 10, i, k[j])
				}
			}
		}
	})
	for _, i := range []int{7, 9, 15, 16} {
		p.anchors(t, api.OK, 5, 10, i, k[i])
		tells(t, p.r, 5, i, 0, -1)
	}
	for i := range k {
		p.anchors(t, api.OK, 5, 10, i, k[i])
	}
	tells(t, p.r, 5, 16, 0, -1)
}

// P21.1: what waits stays behind an anchor of its own epoch. What is of indices up to it is released no more, what is of later ones is.
func TestAnchorLeavesWaiting(t *testing.T) {
	c := usual()
	k := keysOf(t, 9, c.Keys)
	p := newPair(t, c, 0)
	p.anchors(t, api.OK, 5, 10, 1, k[1])
	for i := 2; i <= 6; i++ {
		p.offers(t, api.OK, sealed(t, 0, 5, 10+i, fmt.Sprint(i), k[i]), 0)
	}
	p.anchors(t, api.OK, 5, 10, 0, k[0])
	tells(t, p.r, 5, 1, 5, -1)
	p.anchors(t, api.OK, 5, 10, 3, k[3])
	tells(t, p.r, 5, 3, 5, -1)
	p.anchors(t, api.ErrKey, 5, 10, 4, k[5])
	p.anchors(t, api.ErrKey, 5, 11, 4, k[4])
	p.anchors(t, api.ErrOld, 4, 10, 4, k[4])
	tells(t, p.r, 5, 3, 5, -1)
	p.releases(t, api.ErrOld, 5, 3, k[3])
	p.releases(t, api.OK, 5, 5, k[5], "4", "5")
	tells(t, p.r, 5, 5, 3, 15)
	p.releases(t, api.OK, 5, 16, k[16], "6")
	tells(t, p.r, 5, 16, 2, 16)
	p.anchors(t, api.OK, 6, 10, 0, k[0])
	tells(t, p.r, 6, 0, 0, 16)
}

// P21.2: bytes that are no frame are refused as frame.Get refuses them, with an anchor and without one.
func TestOfferNoFrame(t *testing.T) {
	c := usual()
	k := keysOf(t, 10, c.Keys)
	bare, p := newPair(t, c, 1), newPair(t, c, 1)
	p.anchors(t, api.OK, 5, 10, 0, k[0])
	good := sealed(t, 1, 5, 12, "good", k[2])
	changed := bytes.Clone(good)
	changed[9] ^= 4
	for _, r := range []pair{bare, p} {
		for _, most := range []int64{0, -1, math.MinInt64, math.MaxInt64} {
			r.offers(t, api.ErrShort, nil, most)
			r.offers(t, api.ErrShort, []byte{}, most)
			r.offers(t, api.ErrShort, []byte{1, 2}, most)
			r.offers(t, api.ErrSum, []byte{1, 2, 3}, most)
			r.offers(t, api.ErrSum, changed, most)
			r.offers(t, api.ErrSum, good[:len(good)-1], most)
			r.offers(t, api.ErrSum, append(bytes.Clone(good), 1), most)
			r.offers(t, api.ErrForm, append(bytes.Clone(good), 0), most)
			r.offers(t, api.ErrSum, bytes.Repeat([]byte{5}, 1<<16), most)
		}
	}
	tells(t, p.r, 5, 0, 0, -1)
	p.offers(t, api.OK, good, 0)
}

// P21.2: pings, pongs and what another node sends are refused ahead of everything that an anchor says.
func TestOfferOfAnother(t *testing.T) {
	c := usual()
	k := keysOf(t, 11, c.Keys)
	bare, p := newPair(t, c, 1), newPair(t, c, 1)
	p.anchors(t, api.OK, 5, 10, 0, k[0])
	ping, _ := seal.Seal(api.Frame{Kind: api.FPing, From: 1, To: 2, Nonce: 77}, k[2])
	pong, _ := seal.Seal(api.Frame{Kind: api.FPong, From: 1, To: 2, Nonce: 77, Stamp: 5, Epoch: 5, Start: 10, Index: 1, Key: k[1]}, k[2])
	for _, r := range []pair{bare, p} {
		for _, most := range []int64{0, -1, end40 + 1} {
			r.offers(t, api.ErrArg, ping, most)
			r.offers(t, api.ErrArg, pong, most)
			for from := range 8 {
				if from != 1 {
					r.offers(t, api.ErrArg, sealed(t, from, 5, 12, "other", k[2]), most)
					r.offers(t, api.ErrArg, sealed(t, from, 6, 12, "other", k[2]), most)
				}
			}
		}
	}
	tells(t, p.r, 5, 0, 0, -1)
}

// P21.2: without an anchor, and of another epoch, there is none, whatever round and time.
func TestOfferOfAnotherEpoch(t *testing.T) {
	c := usual()
	k := keysOf(t, 12, c.Keys)
	p := newPair(t, c, 1)
	frames := func(epoch int) {
		t.Helper()
		for _, round := range []int{0, 10, 11, 26, 27, rounds20} {
			for _, most := range []int64{0, -1, 12 * 1200, end40 + 1} {
				p.offers(t, api.ErrNone, sealed(t, 1, epoch, round, "x", k[2]), most)
			}
		}
	}
	for _, epoch := range []int{0, 1, epochs} {
		frames(epoch)
	}
	p.anchors(t, api.OK, 5, 10, 0, k[0])
	for _, epoch := range []int{0, 4, 6, 261, epochs} {
		frames(epoch)
	}
	tells(t, p.r, 5, 0, 0, -1)
}

// P21.2: the time at which the key is told, one less and one more, and times that can't be, of all rounds of a chain, in each config and of each sender.
func TestOfferTimes(t *testing.T) {
	for _, c := range sizes() {
		k := keysOf(t, 13, c.Keys)
		for from := range c.N {
			for _, start := range []int{0, 77} {
				for _, i := range []int{1, 2, c.Keys - 1, c.Keys} {
					p := newPair(t, c, from)
					p.anchors(t, api.OK, 5, start, 0, k[0])
					told := when(c, from, start+i)
					b := sealed(t, from, 5, start+i, "x", k[i])
					for _, most := range []int64{told, told + 1, end40, end40 - 1} {
						p.offers(t, api.ErrLate, b, most)
					}
					for _, most := range []int64{-1, -2, end40 + 1, end40 + 2, math.MinInt64, math.MaxInt64, -told, math.MinInt64 + told} {
						p.offers(t, api.ErrArg, b, most)
					}
					tells(t, p.r, 5, 0, 0, -1)
					p.offers(t, api.OK, b, told-1)
					p.offers(t, api.ErrForm, b, 0)
					p.offers(t, api.ErrLate, b, told)
					if c.Cap > 1 {
						p.offers(t, api.OK, sealed(t, from, 5, start+i, "y", k[i]), 0)
					}
				}
			}
		}
	}
}

// P21.2: rounds that are not the anchor's chain's, and those whose key no round is left to tell.
func TestOfferRounds(t *testing.T) {
	for _, c := range sizes() {
		k := keysOf(t, 14, c.Keys)
		for _, start := range []int{0, 1, 500, rounds20 - 1, rounds20 - 2, rounds20 - c.Delay - 2, rounds20 - c.Keys - c.Delay - 1} {
			p := newPair(t, c, 0)
			p.anchors(t, api.OK, 5, start, 0, k[0])
			for _, round := range []int{0, 1, start - 1, start, start + 1, start + c.Keys, start + c.Keys + 1, rounds20 - c.Delay - 1, rounds20 - c.Delay, rounds20 - 1, rounds20} {
				if round < 0 || round > rounds20 {
					continue
				}
				for _, most := range []int64{0, -1} {
					p.offer(t, sealed(t, 0, 5, round, "x", k[1]), most)
				}
			}
		}
	}
	c := usual()
	k := keysOf(t, 14, c.Keys)
	p := newPair(t, c, 0)
	p.anchors(t, api.OK, 5, rounds20-4, 0, k[0])
	for round, want := range map[int]api.Errno{rounds20: api.ErrArg, rounds20 - 1: api.ErrArg, rounds20 - 2: api.OK, rounds20 - 3: api.OK, rounds20 - 4: api.ErrNone, rounds20 - 5: api.ErrNone, 0: api.ErrNone} {
		p.offers(t, want, sealed(t, 0, 5, round, "x", k[1]), 0)
	}
	p = newPair(t, c, 0)
	p.anchors(t, api.OK, 5, 100, 0, k[0])
	for round, want := range map[int]api.Errno{rounds20: api.ErrArg, rounds20 - 1: api.ErrNone, 117: api.ErrNone, 116: api.OK, 101: api.OK, 100: api.ErrNone, 99: api.ErrNone} {
		p.offers(t, want, sealed(t, 0, 5, round, "x", k[1]), 0)
	}
}

// P21.2: rounds at, below and above the last one that was released, ahead of what their time and their chain say.
func TestOfferBehindLast(t *testing.T) {
	c := usual()
	k := keysOf(t, 15, c.Keys)
	p := newPair(t, c, 1)
	p.anchors(t, api.OK, 5, 10, 0, k[0])
	p.offers(t, api.OK, sealed(t, 1, 5, 14, "x", k[4]), 0)
	p.releases(t, api.OK, 5, 4, k[4], "x")
	for _, most := range []int64{0, -1, end40, end40 + 1} {
		for _, round := range []int{0, 9, 10, 11, 13, 14} {
			p.offers(t, api.ErrOld, sealed(t, 1, 5, round, "again", k[4]), most)
		}
		p.offers(t, api.ErrArg, sealed(t, 2, 5, 14, "again", k[4]), most)
		p.offers(t, api.ErrNone, sealed(t, 1, 4, 14, "again", k[4]), most)
		p.offers(t, api.ErrNone, sealed(t, 1, 6, 14, "again", k[4]), most)
	}
	p.offers(t, api.OK, sealed(t, 1, 5, 15, "y", k[5]), 0)
	p.releases(t, api.OK, 5, 5, k[5], "y")
}

// P21.2, P21.3: a frame whose key the anchor has already waits, if the time says that it came ahead of that; it is never released.
func TestOfferOfToldKey(t *testing.T) {
	c := usual()
	k := keysOf(t, 16, c.Keys)
	p := newPair(t, c, 1)
	p.anchors(t, api.OK, 5, 10, 6, k[6])
	for _, i := range []int{1, 5, 6} {
		p.offers(t, api.ErrLate, sealed(t, 1, 5, 10+i, "x", k[i]), when(c, 1, 10+i))
		p.offers(t, api.OK, sealed(t, 1, 5, 10+i, "x", k[i]), when(c, 1, 10+i)-1)
	}
	p.offers(t, api.OK, sealed(t, 1, 5, 17, "y", k[7]), 0)
	p.releases(t, api.OK, 5, 16, k[16], "y")
	tells(t, p.r, 5, 16, 3, 17)
}

// P21.2: the same bytes wait once, but may wait again when they do no more; a frame that differs in one bit is another.
func TestOfferSameBytes(t *testing.T) {
	c := usual()
	k := keysOf(t, 17, c.Keys)
	p := newPair(t, c, 1)
	p.anchors(t, api.OK, 5, 10, 0, k[0])
	for i := 1; i <= 3; i++ {
		b := sealed(t, 1, 5, 10+i, "x", k[i])
		p.offers(t, api.OK, b, 0)
		p.offers(t, api.ErrForm, b, 0)
		p.offers(t, api.ErrForm, bytes.Clone(b), 5)
		p.offers(t, api.OK, sealed(t, 1, 5, 10+i, "y", k[i]), 0)
	}
	tells(t, p.r, 5, 0, 6, -1)
	bad := sealed(t, 1, 5, 14, "bad", k[9])
	p.offers(t, api.OK, bad, 0)
	p.releases(t, api.OK, 5, 4, k[4], "x", "x", "x")
	p.offers(t, api.OK, bad, 0)
	p.offers(t, api.ErrForm, bad, 0)
	tells(t, p.r, 5, 4, 1, 13)
}

// P21.2: more than Cap frames of a round are refused, but a round with less takes the place of the newest of one with more.
func TestOfferFull(t *testing.T) {
	for _, c := range sizes() {
		k := keysOf(t, 18, c.Keys)
		p := newPair(t, c, c.N-1)
		p.anchors(t, api.OK, 5, 10, 0, k[0])
		for n := range c.Cap {
			p.offers(t, api.OK, sealed(t, c.N-1, 5, 11, fmt.Sprint(n), k[1]), 0)
			tells(t, p.r, 5, 0, n+1, -1)
		}
		for n := range 3 {
			p.offers(t, api.ErrFull, sealed(t, c.N-1, 5, 11, fmt.Sprint("more ", n), k[1]), 0)
		}
		p.offers(t, api.ErrForm, sealed(t, c.N-1, 5, 11, "0", k[1]), 0)
		p.offers(t, api.OK, sealed(t, c.N-1, 5, 12, "another", k[2]), 0)
		tells(t, p.r, 5, 0, c.Cap, -1)
		if c.Cap == 1 {
			p.releases(t, api.OK, 5, 2, k[2], "another")
		} else {
			p.releases(t, api.OK, 5, 2, k[2], "0", "another")
		}
		tells(t, p.r, 5, 2, 0, 12)
	}
}

// P21.5: who floods one round with frames that don't hold leaves those of others, which came alone, where they are.
func TestOfferFlood(t *testing.T) {
	c := usual()
	k := keysOf(t, 19, c.Keys)
	p := newPair(t, c, 1)
	p.anchors(t, api.OK, 5, 10, 0, k[0])
	var want []string
	for i := 1; i <= 4; i++ {
		p.offers(t, api.OK, sealed(t, 1, 5, 10+i, fmt.Sprint(i), k[i]), 0)
		want = append(want, fmt.Sprint(i))
		for n := range 50 {
			p.offer(t, sealed(t, 1, 5, 20, fmt.Sprint("flood ", i, n), key(1)), 0)
		}
	}
	tells(t, p.r, 5, 0, c.Cap, -1)
	p.releases(t, api.OK, 5, 16, k[16], want...)
	tells(t, p.r, 5, 16, 0, 14)
}

// P21.3, P2: what Tell refuses, each ahead of what the chapter names behind it.
func TestTellErrors(t *testing.T) {
	c := usual()
	k, l := keysOf(t, 20, c.Keys), keysOf(t, 21, c.Keys)
	p := newPair(t, c, 1)
	for _, epoch := range append([]int{0, 5, epochs}, noEpochs...) {
		p.releases(t, api.ErrNone, epoch, 3, k[3])
		p.releases(t, api.ErrNone, epoch, -1, nil)
		p.releases(t, api.ErrNone, epoch, 0, k[0])
	}
	p.anchors(t, api.OK, 5, 10, 4, k[4])
	p.offers(t, api.OK, sealed(t, 1, 5, 15, "waits", k[5]), 0)
	for _, epoch := range append([]int{0, 4, 6, epochs}, noEpochs...) {
		p.releases(t, api.ErrNone, epoch, 5, k[5])
		p.releases(t, api.ErrNone, epoch, -1, nil)
		p.releases(t, api.ErrNone, epoch, 4, k[4])
		p.releases(t, api.ErrNone, epoch, 5, l[5])
	}
	for _, index := range noIndexes(c) {
		p.releases(t, api.ErrArg, 5, index, k[5])
		p.releases(t, api.ErrArg, 5, index, l[5])
		p.releases(t, api.ErrArg, 5, index, nil)
	}
	for _, bad := range noKeys() {
		for _, index := range []int{0, 3, 4, 5, 16, 17} {
			p.releases(t, api.ErrArg, 5, index, bad)
		}
	}
	for _, index := range []int{0, 1, 3, 4} {
		p.releases(t, api.ErrOld, 5, index, k[index])
		p.releases(t, api.ErrOld, 5, index, l[index])
		p.releases(t, api.ErrOld, 5, index, k[5])
	}
	for index := 5; index <= 16; index++ {
		p.releases(t, api.ErrKey, 5, index, l[index])
		p.releases(t, api.ErrKey, 5, index, k[index-1])
		p.releases(t, api.ErrKey, 5, index, key(0))
		if index < 16 {
			p.releases(t, api.ErrKey, 5, index, k[index+1])
		}
	}
	tells(t, p.r, 5, 4, 1, -1)
	p.releases(t, api.OK, 5, 5, k[5], "waits")
}

// P21.3: each bit of a key counts.
func TestTellChangedKey(t *testing.T) {
	c := usual()
	k := keysOf(t, 22, c.Keys)
	p := newPair(t, c, 1)
	p.anchors(t, api.OK, 5, 10, 4, k[4])
	for bit := range 8 * key16 {
		changed := bytes.Clone(k[6])
		changed[bit/8] ^= 1 << (bit % 8)
		p.releases(t, api.ErrKey, 5, 6, changed)
		p.anchors(t, api.ErrKey, 5, 10, 6, changed)
	}
	p.releases(t, api.OK, 5, 6, k[6])
}

// P21.3: several indices told at once: of each what waits is released in the order of the rounds, in whichever order it came; some have none, some several.
func TestTellSeveral(t *testing.T) {
	c := usual()
	k := keysOf(t, 23, c.Keys)
	p := newPair(t, c, 1)
	p.anchors(t, api.OK, 5, 10, 1, k[1])
	frames := []struct {
		index int
		body  string
		with  int
	}{
		{9, "9", 9}, // behind what is told
		{7, "7 bad", 6},
		{3, "3 bad", 4},
		{5, "5 first", 5},
		{7, "7 second", 7},
		{5, "5 later", 5},
		{7, "7 later", 7},
		{2, "2", 2},
	}
	for _, f := range frames {
		p.offers(t, api.OK, sealed(t, 1, 5, 10+f.index, f.body, k[f.with]), 0)
	}
	tells(t, p.r, 5, 1, 8, -1)
	p.releases(t, api.OK, 5, 8, k[8], "2", "5 first", "7 second")
	tells(t, p.r, 5, 8, 1, 17)
	p.releases(t, api.OK, 5, 16, k[16], "9")
	tells(t, p.r, 5, 16, 0, 19)
}

// P21.3: nothing that waits, nothing that holds: none is released, and Last stays.
func TestTellNone(t *testing.T) {
	c := usual()
	k := keysOf(t, 24, c.Keys)
	p := newPair(t, c, 1)
	p.anchors(t, api.OK, 5, 10, 0, k[0])
	p.releases(t, api.OK, 5, 1, k[1])
	tells(t, p.r, 5, 1, 0, -1)
	for i := 2; i <= 5; i++ {
		p.offers(t, api.OK, sealed(t, 1, 5, 10+i, "bad", k[i-1]), 0)
		p.offers(t, api.OK, sealed(t, 1, 5, 10+i, "bad", k[i+1]), 0)
	}
	p.releases(t, api.OK, 5, 5, k[5])
	tells(t, p.r, 5, 5, 0, -1)
	p.offers(t, api.OK, sealed(t, 1, 5, 16, "good", k[6]), 0)
	p.releases(t, api.OK, 5, 16, k[16], "good")
}

// P21.3: frames are released just as they were sealed; one that was changed anywhere is not.
func TestTellJustAsSealed(t *testing.T) {
	c := usual()
	k := keysOf(t, 25, c.Keys)
	was := api.Frame{Kind: api.FData, From: 2, Epoch: 5, Round: 12, View: 0xa5, Index: 256, Key: []byte("0123456789abcdef"), Body: []byte("fedcba9876543210")}
	for _, change := range []func(f *api.Frame){
		func(f *api.Frame) {},
		func(f *api.Frame) { f.View = 0 },
		func(f *api.Frame) { f.Index = 0 },
		func(f *api.Frame) { f.Body = nil },
		func(f *api.Frame) { f.Body = []byte{0} },
		func(f *api.Frame) { f.Key = key(0) },
	} {
		f := was
		change(&f)
		b, e := seal.Seal(f, k[2])
		if e != api.OK {
			t.Fatal(e)
		}
		f.Tag, _ = seal.Tag(f, k[2])
		p := newPair(t, c, 2)
		p.anchors(t, api.OK, 5, 10, 0, k[0])
		p.offers(t, api.OK, b, 0)
		l, _ := p.tell(t, 5, 2, k[2])
		same(t, l, []api.Frame{f})

		p = newPair(t, c, 2)
		p.anchors(t, api.OK, 5, 10, 0, k[0])
		for _, g := range changed(f) {
			b, e := frame.Put(g)
			if e != api.OK {
				t.Fatal(e)
			}
			p.offers(t, api.OK, b, 0)
		}
		p.releases(t, api.OK, 5, 2, k[2])
	}
}

// changed tells frames that differ from one in a field each, with its tag.
func changed(f api.Frame) []api.Frame {
	view, index, body, other, tag := f, f, f, f, f
	view.View ^= 1
	index.Index ^= 1
	if index.Index > 256 {
		index.Index = 1
	}
	body.Body = []byte("another")
	other.Key = bytes.Clone(f.Key)
	other.Key[15] ^= 128
	tag.Tag = bytes.Clone(f.Tag)
	tag.Tag[7] ^= 1
	return []api.Frame{view, index, body, other, tag}
}

// P21.3: all keys of the longest chain at once, and one by one.
func TestTellWholeChain(t *testing.T) {
	c := sizes()[2]
	k := keysOf(t, 26, c.Keys)
	at, one := newPair(t, c, 7), newPair(t, c, 7)
	at.anchors(t, api.OK, epochs, 1000, 0, k[0])
	one.anchors(t, api.OK, epochs, 1000, 0, k[0])
	var want []string
	for i := 4; i <= c.Keys; i += 4 {
		at.offers(t, api.OK, sealed(t, 7, epochs, 1000+i, fmt.Sprint(i), k[i]), 0)
		want = append(want, fmt.Sprint(i))
	}
	tells(t, at.r, epochs, 0, 64, -1)
	at.releases(t, api.OK, epochs, c.Keys, k[c.Keys], want...)
	for i := 1; i <= c.Keys; i++ {
		one.offers(t, api.OK, sealed(t, 7, epochs, 1000+i, "one", k[i]), when(c, 7, 1000+i)-1)
		one.releases(t, api.OK, epochs, i, k[i], "one")
	}
	for _, p := range []pair{at, one} {
		tells(t, p.r, epochs, c.Keys, 0, 1000+c.Keys)
	}
}

// P21.5: each round is released once, in whichever epoch it comes again: rounds rise over all epochs.
func TestOnceOverEpochs(t *testing.T) {
	c := usual()
	p := newPair(t, c, 1)
	for epoch := range 5 {
		k := keysOf(t, byte(30+epoch), c.Keys)
		start := 10 + 3*epoch
		p.anchors(t, api.OK, epoch, start, 0, k[0])
		last := p.r.Last()
		for i := 1; i <= 6; i++ {
			want := api.OK
			if start+i <= last {
				want = api.ErrOld
			}
			p.offers(t, want, sealed(t, 1, epoch, start+i, fmt.Sprint(epoch, " ", start+i), k[i]), 0)
		}
		p.tell(t, epoch, 6, k[6])
		tells(t, p.r, epoch, 6, 0, start+6)
	}
	for at, f := range p.w.released {
		if f.Round != 11+at {
			t.Fatalf("rounds %+v", p.w.released)
		}
	}
	if len(p.w.released) != 18 {
		t.Fatalf("%d frames", len(p.w.released))
	}
	k := keysOf(t, 40, c.Keys)
	p.anchors(t, api.OK, 9, 0, 0, k[0])
	for i := 1; i <= c.Keys; i++ {
		p.offers(t, api.ErrOld, sealed(t, 1, 9, i, "again", k[i]), 0)
	}
	p.releases(t, api.OK, 9, 16, k[16])
	tells(t, p.r, 9, 16, 0, 28)
}

// P21.5: who knows all keys that are told, and sends at any time what he makes of them, is never believed, if most is never below the sender's clock.
func TestForger(t *testing.T) {
	random := rand.New(rand.NewSource(210))
	believed := 0
	for _, c := range sizes()[:6] {
		from := random.Intn(c.N)
		k := keysOf(t, 50, c.Keys)
		p := newPair(t, c, from)
		p.anchors(t, api.OK, 1, 2, 0, k[0])
		sent := map[string]bool{}
		var on [][]byte
		known := 0
		for now := int64(0); known < c.Keys; now += int64(1 + random.Intn(c.Slot*c.N/3)) {
			round := int(now / int64(c.N*c.Slot))
			for known < c.Keys && when(c, from, 2+known+1) <= now {
				known++
			}
			if i := round - 2; i >= 1 && i <= c.Keys {
				body := fmt.Sprint("said ", round)
				b := sealed(t, from, 1, round, body, k[i])
				if !sent[string(b)] {
					sent[string(b)] = true
					on = append(on, b)
				}
			}
			if len(on) > 0 && random.Intn(2) == 0 {
				p.offer(t, on[random.Intn(len(on))], now+int64(random.Intn(50)))
				p.offer(t, on[len(on)-1], now+int64(random.Intn(50)))
			}
			i := random.Intn(known + 1)
			p.offer(t, sealed(t, from, 1, 2+i, "forged", k[i]), now+int64(random.Intn(50)))
			p.offer(t, sealed(t, from, 1, 3+random.Intn(c.Keys), "forged", k[i]), now)
			if random.Intn(3) == 0 {
				p.tell(t, 1, i, k[i])
			}
		}
		p.tell(t, 1, c.Keys, k[c.Keys])
		believed += len(p.w.released)
		for _, f := range p.w.released {
			b, _ := frame.Put(f)
			if !sent[string(b)] {
				t.Fatalf("%q of round %d was never sent", f.Body, f.Round)
			}
		}
	}
	if believed < 50 {
		t.Errorf("%d were released", believed)
	}
}

// P4: lists that were handed in may be changed behind a call.
func TestHandedInIsNotKept(t *testing.T) {
	c := usual()
	k := keysOf(t, 60, c.Keys)
	r := made(t, c, 1)
	mine := bytes.Clone(k[0])
	spoil := func(b []byte) {
		for at := range b {
			b[at] ^= 0x5a
		}
	}
	check := func(e api.Errno) {
		t.Helper()
		if e != api.OK {
			t.Fatal(e)
		}
	}
	check(r.Anchor(5, 10, 0, mine))
	spoil(mine)
	mine = bytes.Clone(k[1])
	check(r.Anchor(5, 10, 1, mine))
	spoil(mine)
	for i := 2; i <= 4; i++ {
		b := sealed(t, 1, 5, 10+i, fmt.Sprint(i), k[i])
		check(r.Offer(b, 0))
		spoil(b)
	}
	mine = bytes.Clone(k[2])
	l, e := r.Tell(5, 2, mine)
	check(e)
	spoil(mine)
	if len(l) != 1 || string(l[0].Body) != "2" {
		t.Fatalf("released %+v", l)
	}
	spoil(l[0].Body)
	spoil(l[0].Key)
	spoil(l[0].Tag)
	l[0] = api.Frame{}
	l, e = r.Tell(5, 4, k[4])
	check(e)
	if len(l) != 2 || string(l[0].Body) != "3" || string(l[1].Body) != "4" {
		t.Fatalf("released %+v", l)
	}
	check(r.Anchor(5, 10, 4, k[4]))
}

// P4: no list that is answered shares memory with another one, nor with what was handed in.
func TestAnsweredIsNew(t *testing.T) {
	c := usual()
	k := keysOf(t, 61, c.Keys)
	r := made(t, c, 1)
	r.Anchor(5, 10, 0, k[0])
	var in [][]byte
	for i := 1; i <= 3; i++ {
		in = append(in, sealed(t, 1, 5, 10+i, fmt.Sprint("body ", i), k[i]))
		r.Offer(in[i-1], 0)
	}
	in = append(in, k[3])
	before := fmt.Sprint(in)
	l, _ := r.Tell(5, 3, k[3])
	if len(l) != 3 {
		t.Fatalf("released %+v", l)
	}
	var out [][]byte
	for _, f := range l {
		out = append(out, f.Key, f.Body, f.Tag)
	}
	for at, b := range out {
		others := fmt.Sprint(out[:at], out[at+1:])
		b = b[:cap(b)]
		for place := range b {
			b[place] ^= 0xff
		}
		if fmt.Sprint(out[:at], out[at+1:]) != others {
			t.Fatalf("list %d shares memory", at)
		}
	}
	if fmt.Sprint(in) != before {
		t.Fatal("what was handed in has changed")
	}
	if e := r.Anchor(5, 10, 3, k[3]); e != api.OK {
		t.Fatal(e)
	}
}

// P2: beside an error no frames are told; P3: nil and empty lists are the same.
func TestNoneBesideErrors(t *testing.T) {
	c := usual()
	k := keysOf(t, 62, c.Keys)
	r := made(t, c, 1)
	r.Anchor(5, 10, 1, k[1])
	for i := 2; i <= 4; i++ {
		r.Offer(sealed(t, 1, 5, 10+i, "x", k[i]), 0)
	}
	for _, tell := range []struct {
		epoch int
		index int
		key   []byte
		want  api.Errno
	}{{4, 3, k[3], api.ErrNone}, {5, 17, k[3], api.ErrArg}, {5, 3, nil, api.ErrArg}, {5, 3, []byte{}, api.ErrArg}, {5, 1, k[1], api.ErrOld}, {5, 3, k[4], api.ErrKey}} {
		if l, e := r.Tell(tell.epoch, tell.index, tell.key); l != nil || e != tell.want {
			t.Errorf("Tell(%d, %d, %x) = %v, %v, want %v", tell.epoch, tell.index, tell.key, l, e, tell.want)
		}
	}
	tells(t, r, 5, 1, 3, -1)
}

// P21.4: a nil receiver, and one that no call made.
func TestUnmade(t *testing.T) {
	k := key(1)
	b := sealed(t, 0, 0, 1, "x", k)
	for _, r := range []*Receiver{nil, {}, new(Receiver)} {
		for range 2 {
			for _, e := range []api.Errno{
				r.Anchor(0, 0, 0, k), r.Anchor(-1, -1, -1, nil), r.Anchor(math.MaxInt, math.MinInt, math.MaxInt, nil),
				r.Offer(b, 0), r.Offer(nil, -1), r.Offer([]byte{1}, math.MinInt64),
			} {
				if e != api.ErrZero {
					t.Errorf("%v, want %v", e, api.ErrZero)
				}
			}
			for _, index := range []int{0, 1, -1, math.MaxInt, math.MinInt} {
				for _, key := range [][]byte{nil, k} {
					if l, e := r.Tell(index, index, key); l != nil || e != api.ErrZero {
						t.Errorf("Tell: %v, %v", l, e)
					}
				}
			}
			tells(t, r, -1, -1, 0, -1)
		}
	}
}

// P1, P6: the greatest and the least numbers of each call, without an anchor and with one.
func TestWildNumbers(t *testing.T) {
	wild := []int{math.MinInt, math.MinInt + 1, math.MinInt32, -1 << 20, -65536, -257, -17, -1, 0, 1, 5, 10, 16, 17, 256, 257, 65535, 65536, 1<<20 - 1, 1 << 20, math.MaxInt32, math.MaxInt - 1, math.MaxInt}
	c := usual()
	k := keysOf(t, 63, c.Keys)
	for _, keys := range [][]byte{nil, k[1], k[16], make([]byte, 17)} {
		bare, p := newPair(t, c, 1), newPair(t, c, 1)
		p.anchors(t, api.OK, 5, 10, 0, k[0])
		for body, a := range wild {
			for _, b := range wild {
				bare.tell(t, a, b, keys)
				p.tell(t, a, b, keys)
				p.offer(t, sealed(t, 1, 5, 12, fmt.Sprint(body), k[2]), int64(b))
				for _, index := range wild {
					if a < 6 {
						p.anchor(t, a, b, index, keys)
					}
					newPair(t, c, 2).anchor(t, a, b, index, keys)
				}
			}
		}
	}
}

// P5: two receivers know nothing of each other, and the same calls have the same answers.
func TestApart(t *testing.T) {
	c := usual()
	k, l := keysOf(t, 64, c.Keys), keysOf(t, 65, c.Keys)
	a, b, twin := newPair(t, c, 1), newPair(t, c, 2), newPair(t, c, 1)
	for _, p := range []pair{a, twin} {
		p.anchors(t, api.OK, 5, 10, 0, k[0])
	}
	tells(t, b.r, -1, -1, 0, -1)
	b.anchors(t, api.OK, 6, 10, 2, l[2])
	for i := 3; i <= 7; i++ {
		for _, p := range []pair{a, twin} {
			p.offers(t, api.OK, sealed(t, 1, 5, 10+i, "a", k[i]), 0)
		}
		b.offers(t, api.OK, sealed(t, 2, 6, 10+i, "b", l[i]), 0)
	}
	b.releases(t, api.OK, 6, 16, l[16], "b", "b", "b", "b", "b")
	tells(t, a.r, 5, 0, 5, -1)
	got, _ := a.r.Tell(5, 16, k[16])
	again, _ := twin.r.Tell(5, 16, k[16])
	if len(got) != 5 || !reflect.DeepEqual(got, again) {
		t.Fatalf("released %+v and %+v", got, again)
	}
}

// A refusal wraps its number, which is found through any others that wrap it in turn; nothing that is refused is told as OK.
func TestRefusals(t *testing.T) {
	for e := api.ErrArg; e <= api.ErrTag; e++ {
		refused := refuse("what", e)
		if refused == nil || number(refused) != e || number(fmt.Errorf("again: %w", refused)) != e || !errors.Is(refused, e) {
			t.Errorf("%v is wrapped as %v", e, refused)
		}
		if refused.Error() != "what: "+e.Error() {
			t.Errorf("%v tells %q", e, refused.Error())
		}
	}
	if refuse("what", api.OK) != nil || number(nil) != api.OK {
		t.Error("OK is refused")
	}
}

// Who leaves the row of what waits is not asked again.
func TestUnlockedLeft(t *testing.T) {
	c := usual()
	k := keysOf(t, 66, c.Keys)
	r := made(t, c, 1)
	r.Anchor(5, 10, 0, k[0])
	for i := 1; i <= 4; i++ {
		r.Offer(sealed(t, 1, 5, 10+i, "x", k[i]), 0)
	}
	r.anchor.index, r.anchor.key = 4, k[4]
	met := 0
	for f, with := range r.unlocked(1) {
		met++
		if f.Round != 10+met || !bytes.Equal(with, k[met]) {
			t.Fatalf("round %d with %x", f.Round, with)
		}
		if met == 2 {
			break
		}
	}
	if met != 2 {
		t.Fatalf("%d were met", met)
	}
}

// sender is what a driver of random acts draws from: chains of some epochs, each with its start.
type sender struct {
	c      api.Config
	from   int
	starts []int
	chains [][][]byte
	sent   [][]byte
}

// So many epochs has a sender; they end at the greatest one.
const senderEpochs = 12

func newSender(t testing.TB, random *rand.Rand, c api.Config, from int) *sender {
	t.Helper()
	s := &sender{c: c, from: from}
	for n := range senderEpochs {
		s.starts = append(s.starts, 8*n+random.Intn(12))
		s.chains = append(s.chains, keysOf(t, byte(70+n), c.Keys))
	}
	return s
}

func (s *sender) epoch(n int) int {
	return epochs - senderEpochs + 1 + n
}

// pick tells which of the epochs: mostly the receiver's, or one beside it.
func (s *sender) pick(random *rand.Rand, r *Receiver) int {
	n := max(r.Epoch()-s.epoch(0), 0)
	if random.Intn(8) == 0 {
		n += random.Intn(4) - 1
	}
	return min(max(n, 0), senderEpochs-1)
}

// near tells an index mostly some behind the receiver's.
func (s *sender) near(random *rand.Rand, r *Receiver) int {
	if random.Intn(6) == 0 {
		return random.Intn(s.c.Keys+3) - 1
	}
	return min(max(r.Index()+random.Intn(6)-2, 0), s.c.Keys)
}

// keyOf tells the key of an index, at times another one or none.
func (s *sender) keyOf(random *rand.Rand, n int, index int) []byte {
	if index < 0 || index > s.c.Keys || random.Intn(7) == 0 {
		switch random.Intn(4) {
		case 0:
			return make([]byte, random.Intn(20))
		case 1:
			return s.chains[random.Intn(senderEpochs)][random.Intn(s.c.Keys+1)]
		}
		return s.chains[n][random.Intn(s.c.Keys+1)]
	}
	return s.chains[n][index]
}

// act does one act on a pair, and tells its error.
func (s *sender) act(t testing.TB, random *rand.Rand, p pair) api.Errno {
	t.Helper()
	n := s.pick(random, p.r)
	index := s.near(random, p.r)
	switch random.Intn(12) {
	case 0:
		index = max(index-2, 0) // else it is mostly ahead of what is told
		start := s.starts[n]
		if random.Intn(5) == 0 {
			start += random.Intn(3) - 1
		}
		return p.anchor(t, s.epoch(n), start, index, s.keyOf(random, n, index))
	case 1:
		_, e := p.tell(t, s.epoch(n), index, s.keyOf(random, n, index))
		return e
	}
	b, round := s.bytes(t, random, n, index+random.Intn(4))
	return p.offer(t, b, s.most(random, round))
}

// bytes tells a frame of a round, at times one that was sent already, or is damaged.
func (s *sender) bytes(t testing.TB, random *rand.Rand, n int, index int) ([]byte, int) {
	t.Helper()
	round := max(s.starts[n]+index, 0)
	if len(s.sent) > 0 && random.Intn(5) == 0 {
		return s.sent[random.Intn(len(s.sent))], round
	}
	from := s.from
	if random.Intn(20) == 0 {
		from = random.Intn(api.MaxNodes)
	}
	with := s.chains[n][min(max(index, 0), s.c.Keys)]
	if random.Intn(4) == 0 {
		with = s.chains[n][random.Intn(s.c.Keys+1)]
	}
	b := sealed(t, from, s.epoch(n), round, fmt.Sprint(random.Intn(1000)), with)
	if random.Intn(20) == 0 {
		b = b[:random.Intn(len(b))]
	}
	s.sent = append(s.sent, b)
	return b, round
}

// most tells a time that is mostly ahead of that at which the key of a round is told.
func (s *sender) most(random *rand.Rand, round int) int64 {
	told := when(s.c, s.from, round)
	switch random.Intn(8) {
	case 0:
		return told
	case 1:
		return told - 1
	case 2:
		return []int64{-1, end40, end40 + 1, math.MinInt64, math.MaxInt64}[random.Intn(5)]
	}
	return random.Int63n(told)
}

// P21.1 to P21.5: acts in turn, drawn by chance, held against the chapter's words behind each.
func TestActsInTurn(t *testing.T) {
	random := rand.New(rand.NewSource(2121))
	seen := map[api.Errno]int{}
	released := 0
	for _, c := range sizes() {
		c.Keys = min(c.Keys, 40)
		for range 12 {
			s := newSender(t, random, c, random.Intn(c.N))
			p := newPair(t, c, s.from)
			for range 240 {
				seen[s.act(t, random, p)]++
			}
			released += len(p.w.released)
		}
	}
	for _, e := range []api.Errno{api.OK, api.ErrArg, api.ErrShort, api.ErrForm, api.ErrNone, api.ErrSum, api.ErrFull, api.ErrOld, api.ErrKey, api.ErrLate} {
		if seen[e] < 20 {
			t.Errorf("%v was met %d times: %v", e, seen[e], seen)
		}
	}
	if released < 500 {
		t.Errorf("%d were released", released)
	}
}

// P21.1 to P21.5: all short rows of some acts.
func TestShortRows(t *testing.T) {
	c := api.Config{N: 2, Slot: 300, Delay: 1, Keys: 5, E: 100, Window: 100, Cap: 2}
	k := keysOf(t, 80, c.Keys)
	good := [][]byte{sealed(t, 1, 1, 4, "a", k[1]), sealed(t, 1, 1, 5, "b", k[2]), sealed(t, 1, 1, 5, "bad", k[1]), sealed(t, 1, 2, 5, "c", k[1])}
	acts := []func(p pair){
		func(p pair) { p.anchor(t, 1, 3, 0, k[0]) },
		func(p pair) { p.anchor(t, 1, 3, 1, k[1]) },
		func(p pair) { p.anchor(t, 2, 4, 0, k[0]) },
		func(p pair) { p.offer(t, good[0], 0) },
		func(p pair) { p.offer(t, good[1], 0) },
		func(p pair) { p.offer(t, good[2], 0) },
		func(p pair) { p.offer(t, good[3], 0) },
		func(p pair) { p.tell(t, 1, 1, k[1]) },
		func(p pair) { p.tell(t, 1, 2, k[2]) },
		func(p pair) { p.tell(t, 2, 1, k[1]) },
	}
	const length = 4
	rows := 1
	for range length {
		rows *= len(acts)
	}
	for row := range rows {
		p := newPair(t, c, 1)
		p.anchor(t, 1, 3, 0, k[0])
		for rest := row + rows; rest >= len(acts); rest /= len(acts) {
			acts[rest%len(acts)](p)
		}
	}
}

// P1 to P6, P21.1 to P21.5: whatever comes, in whichever order.
func FuzzAll(f *testing.F) {
	f.Add(int64(1), 0, 5, 10, 0, []byte("0123456789abcdef"), int64(0))
	f.Add(int64(2), 3, 65535, 1<<20-1, 16, []byte(nil), int64(-1))
	f.Add(int64(3), 7, -1, -1, -1, make([]byte, 17), int64(math.MaxInt64))
	f.Fuzz(func(t *testing.T, seed int64, size int, epoch int, start int, index int, b []byte, most int64) {
		random := rand.New(rand.NewSource(seed))
		all := sizes()
		c := all[int(uint(size)%uint(len(all)))]
		c.Keys = min(c.Keys, 24)
		s := newSender(t, random, c, random.Intn(c.N))
		p := newPair(t, c, s.from)
		for range 12 {
			for range 3 {
				s.act(t, random, p)
			}
			switch random.Intn(3) {
			case 0:
				p.anchor(t, epoch, start, index, b)
			case 1:
				p.offer(t, b, most)
			case 2:
				p.tell(t, epoch, index, b)
			}
		}
	})
}
