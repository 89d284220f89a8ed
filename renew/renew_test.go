package renew

import (
	"bytes"
	"crypto/hmac"
	"crypto/sha256"
	"encoding/binary"
	"encoding/hex"
	"fmt"
	"math"
	"math/rand"
	"slices"
	"testing"

	"carillon/api"
	"carillon/chain"
	"carillon/disclose"
	"carillon/kdf"
)

// The limits as the document writes them.
const (
	epochs   = 65535
	rounds20 = 1 << 20
	end40    = 1 << 40
	key16    = 16
)

// usual is a config that is right, with rounds of 1200.
func usual() api.Config {
	return api.Config{N: 3, Slot: 400, Delay: 1, Keys: 16, E: 400, Window: 400, Rho: 1, Slew: 2, Cap: 8}
}

// sizes are configs that are right: the least, the greatest, and one of each number of nodes, with each Delay.
func sizes() []api.Config {
	all := []api.Config{
		usual(),
		{N: 1, Slot: 300, Delay: 1, Keys: 5, E: 1, Window: 100, Cap: 1},
		{N: 8, F: 2, Slot: 10000, Delay: 4, Keys: 256, E: 40000, Window: 40000, Rho: 5, Slew: 5, Cap: 64},
	}
	for n := 1; n <= 8; n++ {
		delay := 1 + n%4
		all = append(all, api.Config{N: n, F: (n - 1) / 3, Slot: 300 + 97*n, Delay: delay, Keys: delay + 4 + 5*(n/2), E: 150 * n, Window: 100 + 101*n, Rho: n % 6, Slew: (n * 5) % 6, Cap: 1 + 4*(n-1)})
	}
	return all
}

// span is KeyBytes bytes, each one more than the one ahead.
func span(from byte) []byte {
	b := make([]byte, key16)
	for i := range b {
		b[i] = from + byte(i)
	}
	return b
}

// derived is the key of a label and numbers, by the library's tag.
func derived(from []byte, label string, l ...uint64) []byte {
	info := append([]byte(label), 0)
	for _, n := range l {
		info = binary.BigEndian.AppendUint64(info, n)
	}
	h := hmac.New(sha256.New, from)
	h.Write(append(info, 1))
	return h.Sum(nil)[:key16]
}

// keysOf is all keys of a node's chain of an epoch, by the library's tags.
func keysOf(own []byte, epoch int, n int) [][]byte {
	row := [][]byte{derived(derived(own, "epoch", uint64(epoch)), "seed")}
	for len(row) <= n {
		row = append(row, derived(row[len(row)-1], "chain"))
	}
	slices.Reverse(row)
	return row
}

// when is the time at which a node's slot begins in which key i is told.
func when(c api.Config, slot int, start int, i int) int64 {
	return (int64(start+i+c.Delay)*int64(c.N) + int64(slot)) * int64(c.Slot)
}

// words is a chain by the chapter's words, those of disclose among them.
type words struct {
	c     api.Config
	own   []byte
	slot  int
	begun bool
	epoch int
	start int
	keys  [][]byte
}

func (w *words) begin(epoch int, start int) api.Errno {
	if epoch < 0 || epoch > 65535 || start < 0 || start > 1048575 {
		return api.ErrArg
	}
	if w.begun && w.epoch >= epoch {
		return api.ErrState
	}
	w.begun, w.epoch, w.start, w.keys = true, epoch, start, keysOf(w.own, epoch, w.c.Keys)
	return api.OK
}

func (w *words) mac(round int) (int, api.Errno) {
	switch {
	case !w.begun:
		return 0, api.ErrState
	case round < 0 || round > 1048575:
		return 0, api.ErrArg
	}
	for i := range w.keys {
		if i > 0 && w.start+i == round {
			return i, api.OK
		}
	}
	return 0, api.ErrNone
}

func (w *words) told(round int) (int, api.Errno) {
	switch {
	case !w.begun:
		return 0, api.ErrState
	case round < 0 || round > 1048575:
		return 0, api.ErrArg
	case round <= w.start:
		return 0, api.ErrNone
	}
	last := 0
	for i := range w.keys {
		if i > 0 && w.start+i+w.c.Delay <= round {
			last = i
		}
	}
	return last, api.OK
}

func (w *words) known(now int64) (int, api.Errno) {
	switch {
	case !w.begun:
		return 0, api.ErrState
	case now < 0 || now > 1099511627776 || now/int64(w.c.N)/int64(w.c.Slot) > 1048575:
		return 0, api.ErrArg
	}
	last := 0
	for i := range w.keys {
		if i > 0 && w.start+i+w.c.Delay < rounds20 && when(w.c, w.slot, w.start, i) <= now {
			last = i
		}
	}
	return last, api.OK
}

func (w *words) over(round int) bool {
	return !w.begun || round >= 0 && round <= 1048575 && round+w.c.Delay > w.start+w.c.Keys
}

// made is a chain that New makes.
func made(t testing.TB, c api.Config, own []byte, slot int) *Chain {
	t.Helper()
	s, e := New(c, own, slot)
	if s == nil || e != api.OK {
		t.Fatalf("New(%+v, %x, %d) = %v, %v", c, own, slot, s, e)
	}
	stands(t, s, -1, -1)
	return s
}

// stands checks Epoch and Start.
func stands(t testing.TB, s *Chain, epoch int, start int) {
	t.Helper()
	if s.Epoch() != epoch || s.Start() != start {
		t.Fatalf("Epoch %d, Start %d, want %d, %d", s.Epoch(), s.Start(), epoch, start)
	}
}

// tells checks the key and the index that a call answers.
func tells(t testing.TB, name string, asked any, i int, key []byte, e api.Errno, want int, wantKey []byte, wantE api.Errno) {
	t.Helper()
	if i != want || !bytes.Equal(key, wantKey) || e != wantE {
		t.Fatalf("%s(%v) = %d, %x, %v, want %d, %x, %v", name, asked, i, key, e, want, wantKey, wantE)
	}
}

// pair is a chain, and the same one by the chapter's words.
type pair struct {
	s *Chain
	w *words
}

func newPair(t testing.TB, c api.Config, own []byte, slot int) pair {
	t.Helper()
	return pair{made(t, c, own, slot), &words{c: c, own: slices.Clone(own), slot: slot}}
}

// begunPair is a pair that is begun.
func begunPair(t testing.TB, c api.Config, own []byte, slot int, epoch int, start int) pair {
	t.Helper()
	p := newPair(t, c, own, slot)
	p.begins(t, api.OK, epoch, start)
	return p
}

// holds checks what the chain tells of itself against the words.
func (p pair) holds(t testing.TB) {
	t.Helper()
	epoch, start := -1, -1
	if p.w.begun {
		epoch, start = p.w.epoch, p.w.start
	}
	stands(t, p.s, epoch, start)
}

// begin begins both, and holds the answer against the words.
func (p pair) begin(t testing.TB, epoch int, start int) api.Errno {
	t.Helper()
	e := p.s.Begin(epoch, start)
	if want := p.w.begin(epoch, start); e != want {
		t.Fatalf("Begin(%d, %d): %v, want %v", epoch, start, e, want)
	}
	p.holds(t)
	return e
}

// begins checks what Begin answers.
func (p pair) begins(t testing.TB, want api.Errno, epoch int, start int) {
	t.Helper()
	if e := p.begin(t, epoch, start); e != want {
		t.Fatalf("Begin(%d, %d): %v, want %v", epoch, start, e, want)
	}
}

// keyOf is the key of an index that the words told, none beside an error.
func (p pair) keyOf(i int, e api.Errno) []byte {
	if e != api.OK {
		return nil
	}
	return p.w.keys[i]
}

// round checks what Mac, Told and Over answer of a round, and tells the errors of the first two.
func (p pair) round(t testing.TB, round int) (api.Errno, api.Errno) {
	t.Helper()
	key, i, e := p.s.Mac(round)
	want, wantE := p.w.mac(round)
	tells(t, "Mac", round, i, key, e, want, p.keyOf(want, wantE), wantE)
	i, key, f := p.s.Told(round)
	want, wantF := p.w.told(round)
	tells(t, "Told", round, i, key, f, want, p.keyOf(want, wantF), wantF)
	if got := p.s.Over(round); got != p.w.over(round) {
		t.Fatalf("Over(%d) of start %d: %t", round, p.w.start, got)
	}
	p.holds(t)
	return e, f
}

// time checks what Known answers of a time, and tells its error.
func (p pair) time(t testing.TB, now int64) api.Errno {
	t.Helper()
	i, key, e := p.s.Known(now)
	want, wantE := p.w.known(now)
	tells(t, "Known", now, i, key, e, want, p.keyOf(want, wantE), wantE)
	p.holds(t)
	return e
}

// near are the rounds about a chain: ahead of it, its own, behind it, and some that are none.
func near(c api.Config, start int) []int {
	var all []int
	for round := start - 3; round <= start+c.Keys+c.Delay+3; round++ {
		all = append(all, round)
	}
	return append(all, -1, 0, 1, start/2, start+1000, rounds20-1, rounds20, rounds20+1)
}

// times are those about the telling of each key of a chain, and about the ends of all times.
func times(c api.Config, slot int, start int) []int64 {
	all := []int64{-1, 0, 1, end40 - 1, end40, end40 + 1}
	for i := 1; i <= c.Keys; i++ {
		told := when(c, slot, start, i)
		all = append(all, told-1, told, told+1)
	}
	last := int64(rounds20) * int64(c.N) * int64(c.Slot)
	return append(all, last-1, last, last+1)
}

// all checks what is told of rounds and times all about the chain.
func (p pair) all(t testing.TB) {
	t.Helper()
	for _, round := range near(p.w.c, p.w.start) {
		p.round(t, round)
	}
	for _, now := range times(p.w.c, p.w.slot, p.w.start) {
		p.time(t, now)
	}
}

// fromChain is all keys of the chain by package chain.
func (p pair) fromChain(t testing.TB) [][]byte {
	t.Helper()
	seed, e := chain.Seed(p.w.own, p.w.epoch)
	if e != api.OK {
		t.Fatal(e)
	}
	keys, e := chain.All(seed, p.w.c.Keys)
	if e != api.OK {
		t.Fatal(e)
	}
	return keys
}

// packages checks what is told of a round and a time against packages chain, of which the keys are, and disclose.
func (p pair) packages(t testing.TB, keys [][]byte, round int, now int64) {
	t.Helper()
	keyOf := func(i int, e api.Errno) []byte {
		if e != api.OK {
			return nil
		}
		return keys[i]
	}
	key, i, e := p.s.Mac(round)
	want, wantE := disclose.Index(p.w.c, p.w.start, round)
	tells(t, "Mac", round, i, key, e, want, keyOf(want, wantE), wantE)
	i, key, e = p.s.Told(round)
	want, wantE = disclose.Told(p.w.c, p.w.start, round)
	tells(t, "Told", round, i, key, e, want, keyOf(want, wantE), wantE)
	i, key, e = p.s.Known(now)
	want, wantE = disclose.Known(p.w.c, p.w.slot, p.w.start, now)
	tells(t, "Known", now, i, key, e, want, keyOf(want, wantE), wantE)
	if got := p.s.Over(round); got != disclose.Over(p.w.c, p.w.start, round) {
		t.Fatalf("Over(%d) of start %d: %t", round, p.w.start, got)
	}
}

// leads checks P22.4 of a round: what is told in it leads, by steps, from its key.
func leads(t testing.TB, s *Chain, round int) {
	t.Helper()
	key, i, e := s.Mac(round)
	if e != api.OK {
		return
	}
	j, told, e := s.Told(round)
	if e != api.OK || j >= i {
		t.Fatalf("Told(%d) = %d, %x, %v beside key %d", round, j, told, e, i)
	}
	step := key
	for range i - j {
		step, _ = kdf.Step(step)
	}
	if !bytes.Equal(step, told) {
		t.Fatalf("key %d of round %d steps to %x, told is %x", i, round, step, told)
	}
	if e := chain.Follows(j, told, i, key); e != api.OK {
		t.Fatalf("key %d of round %d does not follow key %d: %v", i, round, j, e)
	}
}

// P22.2: the chapter's example.
func TestExample(t *testing.T) {
	own := span(9)
	s := made(t, usual(), own, 2)
	if e := s.Begin(1, 4); e != api.OK {
		t.Fatalf("Begin: %v", e)
	}
	key, i, e := s.Mac(5)
	tells(t, "Mac", 5, i, key, e, 1, keysOf(own, 1, 16)[1], api.OK)
}

// P22.1, P22.2: keys worked out apart.
func TestBytes(t *testing.T) {
	for _, x := range []struct {
		epoch, keys, i int
		want           string
	}{
		{1, 16, 0, "2fe38e9c0193d40863a74d68b078c2c7"},
		{1, 16, 1, "02295ebd4234c33ee5d78f4a7e0ff54c"},
		{1, 16, 2, "838d2ced24a13b52bb6d9ba2f21ed124"},
		{1, 16, 15, "154a95d31791699a8250e35fcd86f8d8"},
		{1, 16, 16, "34ff28054ab93008f79d9a3b4f098382"},
		{2, 16, 0, "f889fa96f405babbec8c1575ab84f0ab"},
		{2, 16, 1, "63bd3492fa35c1ac8d67a65961e55442"},
		{2, 16, 16, "e35a58241a8ac34e03bb50551f041ab6"},
		{0, 5, 0, "ffd8cc7248496e624ce0167ffce851c6"},
		{0, 5, 1, "66e64ab8cb83100d3af292ffda716094"},
		{0, 5, 5, "06003adf4da590e45f1d2f59f22dc9e8"},
		{65535, 256, 0, "5431d0a9691e77105f6ac817eb0f8e4f"},
		{65535, 256, 1, "240a536c2abdfafe0282121049e062ec"},
		{65535, 256, 128, "2e1398ddc9279f3f0ac6370e9ac04401"},
		{65535, 256, 255, "09703a4f1ef51b92e249d4f0f16ae72d"},
		{65535, 256, 256, "fc6a68c07320193a1d31f591947ebe9a"},
	} {
		want, _ := hex.DecodeString(x.want)
		c := usual()
		c.Keys = x.keys
		s := made(t, c, span(0), 1)
		if e := s.Begin(x.epoch, 100); e != api.OK {
			t.Fatalf("Begin: %v", e)
		}
		if x.i > 0 {
			key, i, e := s.Mac(100 + x.i)
			tells(t, "Mac", 100+x.i, i, key, e, x.i, want, api.OK)
		}
		i, key, e := s.Told(101 + x.i)
		tells(t, "Told", 101+x.i, i, key, e, x.i, want, api.OK)
		now := int64(101+x.i)*1200 + 400
		i, key, e = s.Known(now)
		tells(t, "Known", now, i, key, e, x.i, want, api.OK)
	}
}

// P22.1: each node of each config has a chain, which is not begun; its own key may be any.
func TestNew(t *testing.T) {
	for _, c := range sizes() {
		for slot := range c.N {
			for _, own := range [][]byte{span(1), make([]byte, key16), bytes.Repeat([]byte{255}, key16)} {
				made(t, c, own, slot)
			}
		}
		for _, slot := range []int{-1, -2, c.N, c.N + 1, -c.N, 8, 9, 256, 1 << 32, 1<<32 + 1, math.MinInt, math.MinInt + 1, math.MaxInt, math.MinInt32, math.MaxInt32} {
			if s, e := New(c, span(1), slot); s != nil || e != api.ErrArg {
				t.Errorf("New(%+v, own, %d) = %v, %v", c, slot, s, e)
			}
		}
	}
}

// noKeys are lists that have not KeyBytes.
func noKeys() [][]byte {
	return [][]byte{nil, {}, {1}, make([]byte, key16-1), make([]byte, key16+1), make([]byte, 2*key16), make([]byte, 256+key16), make([]byte, 1<<16+key16)}
}

// P22.1, P3: an own key that has not KeyBytes, with each slot and with one that is none.
func TestNewNoKey(t *testing.T) {
	for _, c := range sizes() {
		for _, own := range noKeys() {
			for slot := -1; slot <= c.N; slot++ {
				if s, e := New(c, own, slot); s != nil || e != api.ErrArg {
					t.Errorf("New(%+v, %d bytes, %d) = %v, %v", c, len(own), slot, s, e)
				}
			}
		}
	}
}

// P22.1: configs that are not right, each by one number.
func TestNewWrongConfig(t *testing.T) {
	wrong := []func(c *api.Config, bad int){
		func(c *api.Config, bad int) { c.N = bad },
		func(c *api.Config, bad int) { c.F = bad },
		func(c *api.Config, bad int) { c.Slot = bad },
		func(c *api.Config, bad int) { c.Delay = bad },
		func(c *api.Config, bad int) { c.Keys = bad },
		func(c *api.Config, bad int) { c.E = bad },
		func(c *api.Config, bad int) { c.Window = bad },
		func(c *api.Config, bad int) { c.Rho = bad },
		func(c *api.Config, bad int) { c.Slew = bad },
		func(c *api.Config, bad int) { c.Cap = bad },
	}
	var all []api.Config
	for _, set := range wrong {
		for _, bad := range []int{-1, 10001, math.MinInt, math.MaxInt, math.MinInt32, math.MaxInt32} {
			c := usual()
			set(&c, bad)
			all = append(all, c)
		}
	}
	all = append(all,
		api.Config{},
		api.Config{N: 9, Slot: 400, Delay: 1, Keys: 16, E: 400, Window: 400, Cap: 8},
		api.Config{N: 3, F: 1, Slot: 400, Delay: 1, Keys: 16, E: 400, Window: 400, Cap: 8},
		api.Config{N: 3, Slot: 299, Delay: 1, Keys: 16, E: 400, Window: 400, Cap: 8},
		api.Config{N: 3, Slot: 400, Delay: 5, Keys: 16, E: 400, Window: 400, Cap: 8},
		api.Config{N: 3, Slot: 400, Delay: 1, Keys: 4, E: 400, Window: 400, Cap: 8},
		api.Config{N: 3, Slot: 400, Delay: 1, Keys: 257, E: 400, Window: 400, Cap: 8},
		api.Config{N: 3, Slot: 400, Delay: 1, Keys: 16, E: 1601, Window: 400, Cap: 8},
		api.Config{N: 3, Slot: 400, Delay: 1, Keys: 16, E: 400, Window: 99, Cap: 8},
		api.Config{N: 3, Slot: 400, Delay: 1, Keys: 16, E: 400, Window: 400, Rho: 6, Cap: 8},
		api.Config{N: 3, Slot: 400, Delay: 1, Keys: 16, E: 400, Window: 400, Slew: 6, Cap: 8},
		api.Config{N: 3, Slot: 400, Delay: 1, Keys: 16, E: 400, Window: 400, Cap: 0},
		api.Config{N: 3, Slot: 400, Delay: 1, Keys: 16, E: 400, Window: 400, Cap: 65})
	for _, c := range all {
		for _, slot := range []int{0, 2, -1} {
			for _, own := range [][]byte{span(1), nil} {
				if s, e := New(c, own, slot); s != nil || e != api.ErrArg {
					t.Errorf("New(%+v, %x, %d) = %v, %v", c, own, slot, s, e)
				}
			}
		}
	}
}

// P22.1, P22.2: chains of every config, of each of its slots, of several keys, epochs and starts, all over; the words and the packages below tell the same.
func TestChains(t *testing.T) {
	for at, c := range sizes() {
		for slot := range c.N {
			if c.Keys > 100 && slot != 0 && slot != c.N-1 {
				continue // the others take long and say no more
			}
			for n, start := range []int{0, 1, 77, rounds20 / 2, rounds20 - 1 - c.Keys - c.Delay} {
				epoch := []int{0, 1, 300, epochs - 1, epochs}[(n+at+slot)%5]
				p := begunPair(t, c, span(byte(17*at+n)), slot, epoch, start)
				p.all(t)
				keys := p.fromChain(t)
				for i := -1; i <= c.Keys+2; i++ {
					p.packages(t, keys, start+i, when(c, slot, start, i))
					p.packages(t, keys, start+i, when(c, slot, start, i)-1)
				}
			}
		}
	}
}

// P22.1: each epoch of each own key has a chain of its own, whatever slot has it; and one epoch of one key has one chain.
func TestChainsDiffer(t *testing.T) {
	seen := map[string]int{}
	for n := range 3 {
		for _, epoch := range []int{0, 1, 2, 255, 256, 258, epochs - 1, epochs} {
			for slot := range 3 {
				p := begunPair(t, usual(), span(byte(n)), slot, epoch, 50)
				p.round(t, 51)
				key, _, _ := p.s.Mac(51)
				seen[string(key)]++
			}
		}
	}
	if len(seen) != 24 {
		t.Errorf("%d keys of 24", len(seen))
	}
	for key, n := range seen {
		if n != 3 {
			t.Errorf("%x is that of %d slots", key, n)
		}
	}
}

// noEpochs and noStarts are numbers that can't be those of a chain.
var (
	noEpochs = []int{-1, -2, epochs + 1, epochs + 2, -epochs, 2*epochs + 1, 1 << 32, 1<<32 + 1, math.MinInt, math.MinInt + 1, math.MaxInt, math.MaxInt - 1, math.MinInt32, math.MaxInt32}
	noStarts = []int{-1, -2, rounds20, rounds20 + 1, -rounds20, 1 << 32, 1<<32 + 1, math.MinInt, math.MinInt + 1, math.MaxInt, math.MaxInt - 1, math.MinInt32, math.MaxInt32}
)

// P22.1: a first Begin, at the ends of its numbers.
func TestBeginEnds(t *testing.T) {
	for _, c := range []api.Config{usual(), sizes()[1], sizes()[5]} {
		for _, epoch := range []int{0, 1, 255, 256, 32768, epochs - 1, epochs} {
			for _, start := range []int{0, 1, 65535, rounds20 - 2, rounds20 - 1} {
				begunPair(t, c, span(3), c.N-1, epoch, start).all(t)
			}
		}
	}
}

// P22.1, P2, P6: an epoch or a start that can't be is ErrArg, ahead of the first Begin and behind it, also where the epoch is none to begin with any more; nothing changes.
func TestBeginBeyond(t *testing.T) {
	for _, c := range []api.Config{usual(), sizes()[1]} {
		bare, full := newPair(t, c, span(4), 0), begunPair(t, c, span(4), 0, 9, 20)
		for _, p := range []pair{bare, full} {
			for _, epoch := range noEpochs {
				for _, start := range append([]int{0, 20, rounds20 - 1}, noStarts...) {
					p.begins(t, api.ErrArg, epoch, start)
				}
			}
			for _, start := range noStarts {
				for _, epoch := range []int{0, 8, 9, 10, epochs} {
					p.begins(t, api.ErrArg, epoch, start)
				}
			}
			p.all(t)
		}
		stands(t, bare.s, -1, -1)
		stands(t, full.s, 9, 20)
		bare.begins(t, api.OK, 0, 7)
		bare.all(t)
	}
}

// P22.1: with its own epoch or a lesser one it is not begun again, whatever the start; nothing changes.
func TestBeginAgain(t *testing.T) {
	for _, c := range []api.Config{usual(), sizes()[1]} {
		for _, own := range []int{0, 1, 100, epochs} {
			p := begunPair(t, c, span(5), 0, own, 20)
			for _, epoch := range []int{0, 1, own / 2, own - 1, own} {
				if epoch < 0 || epoch > own {
					continue
				}
				for _, start := range []int{0, 19, 20, 21, 1000, rounds20 - 1} {
					p.begins(t, api.ErrState, epoch, start)
					stands(t, p.s, own, 20)
				}
			}
			p.all(t)
		}
	}
}

// P22.1: a greater epoch begins anew, at whichever start; nothing of the chain ahead is left, wherever that one was.
func TestBeginGreater(t *testing.T) {
	c := usual()
	for _, epoch := range []int{101, 102, 1000, epochs} {
		for _, start := range []int{0, 40, 50, 51, 60, 1000, rounds20 - 1} {
			for _, asked := range []int{0, 51, 58, 66} {
				p := begunPair(t, c, span(6), 1, 100, 50)
				p.round(t, asked)
				p.begins(t, api.OK, epoch, start)
				stands(t, p.s, epoch, start)
				p.all(t)
			}
		}
	}
}

// P22.1: chain behind chain, up to the last epoch there is; behind that none is begun.
func TestBeginToTheEnd(t *testing.T) {
	p := newPair(t, usual(), span(7), 2)
	start := 5
	for _, epoch := range []int{0, 1, 2, 3, 65000, epochs - 2, epochs - 1, epochs} {
		p.begins(t, api.OK, epoch, start)
		if p.s.Over(start) || p.s.Over(start+15) || !p.s.Over(start+16) {
			t.Fatalf("Over of start %d", start)
		}
		p.all(t)
		start += 16
	}
	for _, epoch := range []int{0, epochs - 1, epochs} {
		p.begins(t, api.ErrState, epoch, start)
	}
	p.begins(t, api.ErrArg, epochs+1, start)
	p.all(t)
}

// P22.2: ahead of the first Begin: ErrState, of any round and time, also of those that can't be; over; neither epoch nor start. The same behind a Begin that is refused.
func TestNotBegun(t *testing.T) {
	for _, c := range sizes() {
		for slot := range c.N {
			p := newPair(t, c, span(8), slot)
			for _, bad := range []func(){
				func() {},
				func() { p.begins(t, api.ErrArg, -1, 3) },
				func() { p.begins(t, api.ErrArg, 3, rounds20) },
			} {
				bad()
				for _, round := range append(near(c, 40), noStarts...) {
					if e, f := p.round(t, round); e != api.ErrState || f != api.ErrState || !p.s.Over(round) {
						t.Fatalf("round %d: %v, %v", round, e, f)
					}
				}
				for _, now := range append(times(c, slot, 40), math.MinInt64, math.MaxInt64) {
					if e := p.time(t, now); e != api.ErrState {
						t.Fatalf("time %d: %v", now, e)
					}
				}
				stands(t, p.s, -1, -1)
			}
		}
	}
}

// P22.2: Mac and Told of rounds at and below the start, the first and the last one that have a key, the one behind it, below 0 and above MaxRounds.
func TestRounds(t *testing.T) {
	for _, c := range sizes() {
		for _, start := range []int{0, 1, 500, rounds20 - 2 - c.Keys} {
			p := begunPair(t, c, span(10), c.N-1, 7, start)
			for _, x := range []struct {
				round     int
				mac, told api.Errno
				i, j      int
			}{
				{start, api.ErrNone, api.ErrNone, 0, 0},
				{start + 1, api.OK, api.OK, 1, 0},
				{start + c.Delay, api.OK, api.OK, c.Delay, 0},
				{start + c.Delay + 1, api.OK, api.OK, c.Delay + 1, 1},
				{start + c.Keys - 1, api.OK, api.OK, c.Keys - 1, c.Keys - 1 - c.Delay},
				{start + c.Keys, api.OK, api.OK, c.Keys, c.Keys - c.Delay},
				{start + c.Keys + 1, api.ErrNone, api.OK, 0, c.Keys + 1 - c.Delay},
				{-1, api.ErrArg, api.ErrArg, 0, 0},
				{-1 - start, api.ErrArg, api.ErrArg, 0, 0},
				{rounds20, api.ErrArg, api.ErrArg, 0, 0},
				{rounds20 + start + 1, api.ErrArg, api.ErrArg, 0, 0},
				{math.MinInt, api.ErrArg, api.ErrArg, 0, 0},
				{math.MaxInt, api.ErrArg, api.ErrArg, 0, 0},
			} {
				if e, f := p.round(t, x.round); e != x.mac || f != x.told {
					t.Fatalf("round %d of start %d: %v, %v, want %v, %v", x.round, start, e, f, x.mac, x.told)
				}
				_, i, _ := p.s.Mac(x.round)
				if j, _, _ := p.s.Told(x.round); i != x.i || j != x.j {
					t.Fatalf("round %d of start %d: %d, %d, want %d, %d", x.round, start, i, j, x.i, x.j)
				}
			}
			if start > 0 {
				for _, round := range []int{0, start - 1} {
					if e, f := p.round(t, round); e != api.ErrNone || f != api.ErrNone {
						t.Fatalf("round %d of start %d: %v, %v", round, start, e, f)
					}
				}
			}
		}
	}
}

// P22.2: what is told stays the last key once all were told, and the commitment till the first is.
func TestToldEnds(t *testing.T) {
	for _, c := range sizes() {
		p := begunPair(t, c, span(11), 0, 7, 30)
		for _, round := range []int{31, 30 + c.Delay} {
			i, key, e := p.s.Told(round)
			tells(t, "Told", round, i, key, e, 0, p.w.keys[0], api.OK)
		}
		for _, round := range []int{30 + c.Keys + c.Delay, 31 + c.Keys + c.Delay, 5000, rounds20 - 1} {
			i, key, e := p.s.Told(round)
			tells(t, "Told", round, i, key, e, c.Keys, p.w.keys[c.Keys], api.OK)
		}
	}
}

// P22.2: Known ahead of the telling of the first key, at it, about that of each, behind all, and at times that can't be.
func TestKnown(t *testing.T) {
	for _, c := range sizes() {
		for slot := range c.N {
			const start = 30
			p := begunPair(t, c, span(12), slot, 7, start)
			at := func(now int64, want int) {
				t.Helper()
				i, key, e := p.s.Known(now)
				tells(t, "Known", now, i, key, e, want, p.w.keys[want], api.OK)
			}
			first := when(c, slot, start, 1)
			for _, now := range []int64{0, 1, first / 2, first - int64(c.Slot), first - 2, first - 1} {
				at(now, 0)
			}
			for i := 1; i <= c.Keys; i++ {
				told := when(c, slot, start, i)
				at(told-1, i-1)
				at(told, i)
				at(told+1, i)
			}
			last := when(c, slot, start, c.Keys)
			end := int64(rounds20) * int64(c.N) * int64(c.Slot)
			for _, now := range []int64{last + int64(c.Slot), 2 * last, end - 1} {
				at(now, c.Keys)
			}
			for _, now := range []int64{-1, -2, -first, end, end + 1, end40, end40 + 1, math.MinInt64, math.MinInt64 + 1, math.MaxInt64} {
				if i, key, e := p.s.Known(now); i != 0 || len(key) != 0 || e != api.ErrArg {
					t.Fatalf("Known(%d) = %d, %x, %v", now, i, key, e)
				}
			}
		}
	}
}

// P22.2: Over at the first round at which it is true, one less, far ahead of it and behind it, and at rounds that can't be.
func TestOver(t *testing.T) {
	for _, c := range sizes() {
		for _, start := range []int{0, 1, 500, rounds20 - 2 - c.Keys} {
			p := begunPair(t, c, span(13), 0, 7, start)
			first := start + c.Keys - c.Delay + 1
			for round, want := range map[int]bool{
				0: false, start / 2: false, start: false, start + 1: false, first - 2: false, first - 1: false,
				first: true, first + 1: true, start + c.Keys: true, start + c.Keys + 1: true, rounds20 - 1: true,
				-1: false, rounds20: false, rounds20 + 1: false, math.MinInt: false, math.MaxInt: false, math.MaxInt - 1: false, math.MinInt + 1: false,
			} {
				if p.s.Over(round) != want {
					t.Fatalf("Over(%d) of start %d, %d keys: %t", round, start, c.Keys, !want)
				}
				p.round(t, round)
			}
		}
	}
}

// P22.1, P22.2: starts near the last round: what there is of rounds has keys, and only what is told in a round that there is gets known.
func TestLateStarts(t *testing.T) {
	for _, c := range sizes() {
		for back := 1; back <= c.Delay+6; back++ {
			start := rounds20 - back
			p := begunPair(t, c, span(14), c.N-1, 7, start)
			p.all(t)
			end := int64(rounds20)*int64(c.N)*int64(c.Slot) - 1
			want := min(max(back-1-c.Delay, 0), c.Keys)
			i, key, e := p.s.Known(end)
			tells(t, "Known", end, i, key, e, want, p.w.keys[want], api.OK)
		}
	}
}

// P22.4: what is told in a round leads, by steps, from the key of that round, of every chain and behind a renewal too.
func TestLeads(t *testing.T) {
	for _, c := range sizes() {
		p := newPair(t, c, span(15), 0)
		start := 9
		for epoch := 1; epoch <= 3; epoch++ {
			p.begins(t, api.OK, epoch, start)
			round := start + 1
			for ; !p.s.Over(round); round++ {
				leads(t, p.s, round)
			}
			for ; round <= start+c.Keys; round++ {
				leads(t, p.s, round)
			}
			start = round - 1
		}
	}
}

// P22.4: what is told in a round is told by no key of another chain, and is never a key that is told only later.
func TestToldBelowMac(t *testing.T) {
	c := usual()
	p := begunPair(t, c, span(16), 0, 1, 10)
	told := map[string]int{}
	for round := 11; round <= 10+c.Keys; round++ {
		key, i, _ := p.s.Mac(round)
		if at, ok := told[string(key)]; ok {
			t.Fatalf("key %d of round %d was told in round %d", i, round, at)
		}
		_, b, _ := p.s.Told(round)
		told[string(b)] = round
	}
}

// P2, P6: a call that is refused changes nothing: what is told behind it is as it was.
func TestRefusedChangesNothing(t *testing.T) {
	c := usual()
	for _, asked := range []int{0, 1, 8, 16} {
		p := begunPair(t, c, span(17), 1, 5, 20)
		if asked > 0 {
			p.s.Mac(20 + asked)
		}
		kept, told := len(p.s.kept), p.s.pebble.Index()
		for range 2 {
			p.s.Begin(5, 30)
			p.s.Begin(4, 30)
			p.s.Begin(65536, 30)
			p.s.Begin(6, -1)
			p.s.Mac(20)
			p.s.Mac(37)
			p.s.Mac(-1)
			p.s.Told(20)
			p.s.Told(rounds20)
			p.s.Known(-1)
			p.s.Known(end40 + 1)
			p.s.Over(-1)
		}
		stands(t, p.s, 5, 20)
		if len(p.s.kept) != kept || p.s.pebble.Index() != told {
			t.Errorf("%d keys are kept, %d were; %d were told, %d were", len(p.s.kept), kept, p.s.pebble.Index(), told)
		}
		p.all(t)
	}
}

// behind is a list with bytes behind it that are the caller's.
func behind(b []byte) []byte {
	return append(slices.Clone(b), bytes.Repeat([]byte{0xee}, 64)...)[:len(b)]
}

// spoil changes a list, and the memory behind it.
func spoil(b []byte) {
	for i := range b[:cap(b)] {
		b[:cap(b)][i] ^= 0xff
	}
}

// P4: the own key is not changed, nor what is behind it; changed behind New, it changes neither the first chain nor a later one.
func TestOwnNotKept(t *testing.T) {
	for _, early := range []bool{true, false} {
		own := behind(span(18))
		p := newPair(t, usual(), own, 0)
		if early {
			spoil(own)
		}
		p.begins(t, api.OK, 3, 10)
		p.all(t)
		if !early {
			want := behind(span(18))
			if !bytes.Equal(own[:cap(want)], want[:cap(want)]) {
				t.Error("own was changed")
			}
			spoil(own)
		}
		p.all(t)
		p.begins(t, api.OK, 4, 20)
		spoil(own)
		p.all(t)
	}
}

// P4: an own key that is refused is not changed either.
func TestRefusedOwnUnchanged(t *testing.T) {
	for _, b := range append(noKeys(), span(1)) {
		own := behind(b)
		New(usual(), own, 3)
		if want := behind(b); !bytes.Equal(own[:cap(want)], want[:cap(want)]) {
			t.Errorf("New changed an own key of %d bytes", len(b))
		}
	}
}

// P4: keys that were told and are changed later change no other answer, be it one of the same key.
func TestToldIsNew(t *testing.T) {
	for _, c := range sizes() {
		p := begunPair(t, c, span(19), 0, 3, 10)
		for range 2 {
			for round := 10; round <= 12+c.Keys+c.Delay; round++ {
				key, _, _ := p.s.Mac(round)
				spoil(key)
				_, key, _ = p.s.Told(round)
				spoil(key)
				_, key, _ = p.s.Known(int64(round) * int64(c.N) * int64(c.Slot))
				spoil(key)
				p.round(t, round)
				p.time(t, int64(round)*int64(c.N)*int64(c.Slot))
			}
		}
		p.all(t)
	}
}

// P4: what was told stays as it was, whatever is asked later, and no two answers share memory.
func TestToldStays(t *testing.T) {
	c := usual()
	p := begunPair(t, c, span(20), 0, 3, 10)
	var told [][]byte
	keep := func(b []byte) {
		if len(b) > 0 {
			told = append(told, b)
		}
	}
	ask := func() {
		for round := 10; round <= 12+c.Keys; round++ {
			key, _, _ := p.s.Mac(round)
			keep(key)
			_, key, _ = p.s.Told(round)
			keep(key)
			_, key, _ = p.s.Known(int64(round) * 1200)
			keep(key)
		}
	}
	ask()
	ask()
	before, early := fmt.Sprint(told), told
	p.begins(t, api.OK, 4, 12)
	ask()
	if fmt.Sprint(early) != before {
		t.Error("what was told has changed")
	}
	for at, b := range told {
		rest := fmt.Sprint(told[:at], told[at+1:])
		spoil(b)
		if fmt.Sprint(told[:at], told[at+1:]) != rest {
			t.Fatalf("answer %d shares memory", at)
		}
	}
	p.all(t)
}

// P5: what is told hangs on no order in which it is asked: rounds and times up, down, by leaps, some of them again and again.
func TestAnyOrder(t *testing.T) {
	c := usual()
	random := rand.New(rand.NewSource(2222))
	rounds, moments := near(c, 10), times(c, 2, 10)
	for n := range 20 {
		p := begunPair(t, c, span(21), 2, 3, 10)
		switch n {
		case 0:
		case 1:
			slices.Reverse(rounds)
			slices.Reverse(moments)
		default:
			random.Shuffle(len(rounds), func(i, j int) { rounds[i], rounds[j] = rounds[j], rounds[i] })
			random.Shuffle(len(moments), func(i, j int) { moments[i], moments[j] = moments[j], moments[i] })
		}
		for at, round := range rounds {
			p.round(t, round)
			p.time(t, moments[at%len(moments)])
		}
		for at, now := range moments {
			p.time(t, now)
			p.round(t, rounds[at%len(rounds)])
		}
	}
}

// P5: chains side by side, of the same node and of others, tell each their own.
func TestSideBySide(t *testing.T) {
	c := usual()
	one, two := begunPair(t, c, span(22), 0, 3, 10), begunPair(t, c, span(22), 0, 3, 10)
	other, bare := begunPair(t, c, span(23), 0, 3, 10), newPair(t, c, span(22), 1)
	for i := range 20 {
		one.round(t, 10+2*i)
		two.round(t, 10+i)
		other.round(t, 30-i)
		bare.round(t, 10+i)
		one.time(t, int64(i)*2400)
		other.time(t, int64(i)*1300)
		if i == 9 {
			two.begins(t, api.OK, 4, 12)
			bare.begins(t, api.OK, 2, 15)
		}
	}
	for _, p := range []pair{one, two, other, bare} {
		p.all(t)
	}
}

// P5: a chain that is copied at any place and the copy go on apart, be one of them begun anew.
func TestCopied(t *testing.T) {
	c := usual()
	for at := range c.Keys + 1 {
		for _, first := range []bool{true, false} {
			p := begunPair(t, c, span(24), 0, 3, 10)
			p.round(t, 10+at)
			copied, same := *p.s, *p.w
			a, b := p, pair{&copied, &same}
			if !first {
				a, b = b, a
			}
			for round := 10; round <= 27; round++ {
				a.round(t, round)
				if round%3 == 0 {
					b.round(t, round-2)
				}
				if round == 20 && at%4 == 1 {
					a.begins(t, api.OK, 4, 15)
				}
			}
			a.all(t)
			b.all(t)
		}
	}
}

// P22.3, P1: a nil chain, and one that no call made, again and again.
func TestUnmade(t *testing.T) {
	refused, _ := New(usual(), nil, 0)
	for at, s := range []*Chain{nil, {}, new(Chain), refused} {
		for range 2 {
			for _, n := range []int{0, 1, 5, -1, epochs + 1, rounds20, math.MinInt, math.MaxInt} {
				for _, start := range []int{0, 5, -1, rounds20, math.MinInt, math.MaxInt} {
					if e := s.Begin(n, start); e != api.ErrZero {
						t.Errorf("%d: Begin(%d, %d): %v", at, n, start, e)
					}
				}
				if key, i, e := s.Mac(n); len(key) != 0 || i != 0 || e != api.ErrZero {
					t.Errorf("%d: Mac(%d) = %x, %d, %v", at, n, key, i, e)
				}
				if i, key, e := s.Told(n); i != 0 || len(key) != 0 || e != api.ErrZero {
					t.Errorf("%d: Told(%d) = %d, %x, %v", at, n, i, key, e)
				}
				if i, key, e := s.Known(int64(n)); i != 0 || len(key) != 0 || e != api.ErrZero {
					t.Errorf("%d: Known(%d) = %d, %x, %v", at, n, i, key, e)
				}
				if !s.Over(n) {
					t.Errorf("%d: Over(%d) is false", at, n)
				}
				stands(t, s, -1, -1)
			}
		}
	}
}

// P1, P6: the greatest and the least numbers, those about the limits, and those whose differences wrap to ordinary ones, ahead of a Begin and behind it.
func TestWildNumbers(t *testing.T) {
	wild := []int{math.MinInt, math.MinInt + 1, math.MinInt + 5, math.MinInt + 20, math.MinInt32, -1 << 20, -65536, -17, -1, 0, 1, 5, 10, 16, 17, 256, 257, 65534, 65535, 65536, 1<<20 - 1, 1 << 20, 1<<32 + 11, 1 << 40, 1<<40 + 1, math.MaxInt32, math.MaxInt - 10, math.MaxInt - 1, math.MaxInt}
	for _, c := range []api.Config{usual(), sizes()[1], sizes()[10]} {
		for _, own := range [][]byte{span(25), nil, make([]byte, 17)} {
			for _, slot := range wild {
				right := len(own) == key16 && slot >= 0 && slot < c.N
				if s, e := New(c, own, slot); (e == api.OK) != right || (s != nil) != right || !right && e != api.ErrArg {
					t.Fatalf("New of %d bytes, slot %d: %v", len(own), slot, e)
				}
			}
		}
		p := newPair(t, c, span(25), 0)
		for _, a := range wild {
			for _, b := range wild {
				begun := newPair(t, c, span(25), 0)
				begun.begin(t, a, b)
				p.begin(t, a, b)
				for _, q := range []pair{begun, p} {
					q.round(t, a)
					q.round(t, b)
					q.time(t, int64(a))
				}
			}
		}
	}
}

// What is kept is what was asked for, and the keys below it: no key that nobody asked for as yet lies in memory but as a pebble.
func TestKeptAsAsked(t *testing.T) {
	c := usual()
	s := made(t, c, span(26), 0)
	s.Begin(1, 10)
	for _, i := range []int{1, 1, 3, 2, 7, 16, 4} {
		ahead := len(s.kept)
		s.Mac(10 + i)
		if want := max(ahead, i+1); len(s.kept) != want || s.pebble.Index() != want-1 {
			t.Errorf("behind key %d: %d are kept, %d were told, want %d", i, len(s.kept), s.pebble.Index(), want)
		}
	}
	s.Begin(2, 20)
	if len(s.kept) != 1 || s.pebble.Index() != 0 {
		t.Errorf("behind Begin: %d are kept, %d were told", len(s.kept), s.pebble.Index())
	}
}

// Keys that grow are put in memory of their own, whatever room is behind those that were there; no more are asked for than are wanted.
func TestGrown(t *testing.T) {
	for have := range 4 {
		for want := range 8 {
			room := make([][]byte, 10)
			for i := range room {
				room[i] = []byte{byte(i)}
			}
			asked := 0
			next := func() ([]byte, api.Errno) {
				asked++
				return []byte{byte(100 + asked)}, api.OK
			}
			got := grown(room[:have], want, next)
			if len(got) != max(have, want) || asked != max(want-have, 0) {
				t.Fatalf("grown from %d to %d: %d, %d were asked for", have, want, len(got), asked)
			}
			for i, key := range got {
				if i < have && key[0] != byte(i) || i >= have && key[0] != byte(101+i-have) {
					t.Fatalf("grown from %d to %d: %x at %d", have, want, key, i)
				}
			}
			for i, key := range room {
				if key[0] != byte(i) {
					t.Fatalf("grown from %d to %d: %x is put at %d behind the keys", have, want, key, i)
				}
			}
		}
	}
}

// act does one act on a pair, mostly one near its chain, and tells its error.
func act(t testing.TB, random *rand.Rand, p pair) api.Errno {
	t.Helper()
	c := p.w.c
	round := p.w.start + random.Intn(c.Keys+c.Delay+8) - 3
	if random.Intn(10) == 0 {
		round = near(c, p.w.start)[random.Intn(8)+c.Keys+c.Delay+7]
	}
	switch random.Intn(10) {
	case 0:
		epoch := p.w.epoch + random.Intn(5) - 1
		start := p.w.start + random.Intn(2*c.Keys) - 2
		return p.begin(t, epoch, start)
	case 1, 2, 3:
		now := (int64(round)*int64(c.N)+int64(p.w.slot))*int64(c.Slot) + int64(random.Intn(3)) - 1
		return p.time(t, now)
	}
	e, f := p.round(t, round)
	leads(t, p.s, round)
	if random.Intn(2) == 0 {
		return e
	}
	return f
}

// P22.1, P22.2, P22.4: acts in turn, drawn by chance, held against the chapter's words behind each.
func TestActsInTurn(t *testing.T) {
	random := rand.New(rand.NewSource(22))
	seen := map[api.Errno]int{}
	for n, c := range sizes() {
		for turn := range 10 {
			own := make([]byte, key16)
			random.Read(own)
			p := newPair(t, c, own, random.Intn(c.N))
			if turn%2 == 0 {
				p.w.epoch, p.w.start = []int{0, 1000, epochs - 12}[n%3], []int{0, 60, rounds20 - 300}[(n+turn)%3] // where the acts begin
			}
			for range 200 {
				seen[act(t, random, p)]++
			}
		}
	}
	for _, e := range []api.Errno{api.OK, api.ErrArg, api.ErrNone, api.ErrState} {
		if seen[e] < 200 {
			t.Errorf("%v was met %d times: %v", e, seen[e], seen)
		}
	}
}

// P22.1 to P22.4, P1: any numbers that a fuzzer wants, as they are, and brought to where a chain is.
func FuzzAll(f *testing.F) {
	f.Add(int64(1), 0, []byte("0123456789abcdef"), 1, 5, 10, 12, int64(15000))
	f.Add(int64(2), 2, make([]byte, 16), 7, 65535, rounds20-20, rounds20-1, int64(83886070000))
	f.Add(int64(3), 5, []byte(nil), -1, -1, -1, -1, int64(-1))
	f.Add(int64(4), 9, make([]byte, 17), 2, math.MaxInt, math.MinInt, math.MaxInt, int64(math.MinInt64))
	f.Fuzz(func(t *testing.T, seed int64, size int, own []byte, slot int, epoch int, start int, round int, now int64) {
		configs := sizes()
		c := configs[int(uint(size)%uint(len(configs)))]
		c.Keys = min(c.Keys, 40)
		s, e := New(c, own, slot)
		if right := len(own) == key16 && slot >= 0 && slot < c.N; (e == api.OK) != right || (s != nil) != right {
			t.Fatalf("New(%+v, %x, %d) = %v, %v", c, own, slot, s != nil, e)
		}
		own = append(slices.Clone(own), make([]byte, key16)...)[:key16]
		random := rand.New(rand.NewSource(seed))
		p := newPair(t, c, own, random.Intn(c.N))
		for range 3 {
			p.begin(t, epoch, start)
			p.round(t, round)
			p.time(t, now)
			if e := p.begin(t, int(uint(epoch)%(epochs+1)), int(uint(start)%rounds20)); e == api.OK {
				p.packages(t, p.fromChain(t), round, now)
			}
			for range 4 {
				act(t, random, p)
			}
		}
	})
}
