package guard

import (
	"math"
	"math/rand"
	"testing"

	"carillon/api"
)

// end40 and rounds20 are the limits as the document writes them.
const (
	end40    = 1 << 40
	rounds20 = 1 << 20
)

// usual is a config that is right, with rounds of 1200.
func usual() api.Config {
	return api.Config{N: 3, Slot: 400, Delay: 1, Keys: 16, E: 400, Window: 400, Rho: 1, Slew: 2, Cap: 8}
}

// sizes are configs that are right: the least, the greatest, and one of each number of nodes.
func sizes() []api.Config {
	all := []api.Config{
		usual(),
		{N: 1, Slot: 300, Delay: 1, Keys: 5, E: 1, Window: 100, Cap: 1},
		{N: 8, F: 2, Slot: 10000, Delay: 4, Keys: 256, E: 40000, Window: 40000, Rho: 5, Slew: 5, Cap: 64},
	}
	for n := 1; n <= 8; n++ {
		all = append(all, api.Config{N: n, F: (n - 1) / 3, Slot: 300 + 97*n, Delay: 1 + n%4, Keys: 8 + 31*(n-1), E: 150 * n, Window: 100 + 101*n, Rho: n % 6, Slew: (n * 5) % 6, Cap: 8 * n})
	}
	return all
}

// long is how many microticks a round has.
func long(c api.Config) int64 {
	return int64(c.N) * int64(c.Slot)
}

// end is the first time that has no place: 2^20 rounds end ahead of 2^40 in each config that is right.
func end(c api.Config) int64 {
	return rounds20 * long(c)
}

// first is the first time of a slot in a round.
func first(c api.Config, round int, slot int) int64 {
	return int64(round)*long(c) + int64(slot)*int64(c.Slot)
}

// words is a guard by the chapter's words: all that it did is kept as a list.
type words struct {
	c       api.Config
	i       int
	least   int
	spoke   []int // rounds, since Forget
	through []int // a round for each that was let through and is not forgotten
}

// place tells the round and the slot of a time, -1 and -1 if it has none.
func (w *words) place(t int64) (int, int) {
	if t < 0 || t > 1099511627776 || t/long(w.c) >= 1048576 {
		return -1, -1
	}
	return int(t / long(w.c)), int((t - t/long(w.c)*long(w.c)) / int64(w.c.Slot))
}

func (w *words) data(t int64) (int, api.Errno) {
	round, slot := w.place(t)
	if round < 0 {
		return 0, api.ErrArg
	}
	if slot != w.i {
		return 0, api.ErrState
	}
	for _, r := range w.spoke {
		if r >= round {
			return 0, api.ErrOld
		}
	}
	if round < w.least {
		return 0, api.ErrOld
	}
	w.spoke = append(w.spoke, round)
	return round, api.OK
}

func (w *words) other(t int64) api.Errno {
	round, _ := w.place(t)
	if round < 0 {
		return api.ErrArg
	}
	count := 0
	kept := []int{round}
	for _, r := range w.through {
		if r == round {
			count++
		}
		if round-r <= 64 {
			kept = append(kept, r)
		}
	}
	if count >= 4*w.c.N {
		return api.ErrFull
	}
	w.through = kept
	return api.OK
}

func (w *words) last() int {
	if len(w.spoke) == 0 {
		return -1
	}
	return w.spoke[len(w.spoke)-1]
}

func (w *words) forget(least int) {
	w.spoke = nil
	w.least = least
	if least < 0 {
		w.least = 0
	}
}

// made is a guard that New makes.
func made(t testing.TB, c api.Config, i int) *Guard {
	t.Helper()
	g, e := New(c, i)
	if g == nil || e != api.OK {
		t.Fatalf("New(%+v, %d) = %v, %v", c, i, g, e)
	}
	if g.Last() != -1 {
		t.Fatalf("Last of a new one: %d", g.Last())
	}
	return g
}

// speaks checks that Data lets it speak in a round.
func speaks(t testing.TB, g *Guard, at int64, round int) {
	t.Helper()
	if r, e := g.Data(at); r != round || e != api.OK || g.Last() != round {
		t.Fatalf("Data(%d) = %d, %v, Last %d, want %d", at, r, e, g.Last(), round)
	}
}

// silent checks that Data refuses, and that the last round is what it was.
func silent(t testing.TB, g *Guard, at int64, want api.Errno) {
	t.Helper()
	before := g.Last()
	if r, e := g.Data(at); r != 0 || e != want || g.Last() != before {
		t.Fatalf("Data(%d) = %d, %v, want %v; Last %d, then %d", at, r, e, want, before, g.Last())
	}
}

// others checks what Other answers n times.
func others(t testing.TB, g *Guard, at int64, n int, want api.Errno) {
	t.Helper()
	for k := range n {
		if e := g.Other(at); e != want {
			t.Fatalf("Other(%d), time %d of %d: %v, want %v", at, k, n, e, want)
		}
	}
}

// room checks that just n more are let through in the round of a time.
func room(t testing.TB, g *Guard, at int64, n int) {
	t.Helper()
	others(t, g, at, n, api.OK)
	others(t, g, at, 2, api.ErrFull)
}

// Kinds of acts of a pair.
const (
	data = iota
	other
	forget
	acts
)

// pair is a guard, and the same one by the chapter's words.
type pair struct {
	g *Guard
	w *words
}

func newPair(t testing.TB, c api.Config, i int) pair {
	t.Helper()
	return pair{made(t, c, i), &words{c: c, i: i}}
}

// does lets both do an act, and holds what the guard answers and tells against the words.
func (p pair) does(t testing.TB, kind int, n int64) api.Errno {
	t.Helper()
	var got, want api.Errno
	var round, wantRound int
	switch kind {
	case data:
		round, got = p.g.Data(n)
		wantRound, want = p.w.data(n)
	case other:
		got, want = p.g.Other(n), p.w.other(n)
	case forget:
		p.g.Forget(int(n))
		p.w.forget(int(n))
	}
	if got != want || round != wantRound {
		t.Fatalf("act %d with %d: %d, %v, want %d, %v", kind, n, round, got, wantRound, want)
	}
	if p.g.Last() != p.w.last() {
		t.Fatalf("act %d with %d: Last %d, want %d", kind, n, p.g.Last(), p.w.last())
	}
	return got
}

// holds checks that what a guard keeps of others is what the words keep, and no more.
func (p pair) holds(t testing.TB) {
	t.Helper()
	counts := map[int]int{}
	for _, r := range p.w.through {
		counts[r]++
	}
	if len(p.g.others) != len(counts) || len(p.g.rounds) != len(counts) {
		t.Fatalf("%d counts, %d rounds, want %d", len(p.g.others), len(p.g.rounds), len(counts))
	}
	for k, r := range p.g.rounds {
		if p.g.others[r] != counts[r] || k > 0 && p.g.rounds[k-1] <= r {
			t.Fatalf("round %d: %d, want %d; rounds %v", r, p.g.others[r], counts[r], p.g.rounds)
		}
	}
}

// P19.1: the chapter's example.
func TestExample(t *testing.T) {
	g := made(t, usual(), 1)
	speaks(t, g, 500, 0)
	silent(t, g, 500, api.ErrOld)
	silent(t, g, 600, api.ErrOld)
}

// P19.1: nodes at their ends.
func TestNew(t *testing.T) {
	for _, c := range sizes() {
		for i := range c.N {
			made(t, c, i)
		}
		for _, i := range []int{-1, c.N, -2, c.N + 1, -c.N, 256, 1 << 32, math.MinInt, math.MinInt + 1, math.MaxInt, math.MinInt32, math.MaxInt32} {
			if g, e := New(c, i); g != nil || e != api.ErrArg {
				t.Errorf("New(%+v, %d) = %v, %v", c, i, g, e)
			}
		}
	}
}

// P19.1: configs that are not right, one number of them beyond its end, with nodes that are and are not.
func TestNewConfig(t *testing.T) {
	for name, change := range map[string]func(*api.Config){
		"no nodes":      func(c *api.Config) { c.N = 0 },
		"nodes below 0": func(c *api.Config) { c.N = math.MinInt },
		"9 nodes":       func(c *api.Config) { c.N = 9 },
		"most nodes":    func(c *api.Config) { c.N = math.MaxInt },
		"F -1":          func(c *api.Config) { c.F = -1 },
		"3 F is N":      func(c *api.Config) { c.F = 1 },
		"most F":        func(c *api.Config) { c.F = math.MaxInt },
		"short slot":    func(c *api.Config) { c.Slot = 299 },
		"long slot":     func(c *api.Config) { c.Slot = 10001 },
		"longest slot":  func(c *api.Config) { c.Slot = math.MaxInt },
		"no delay":      func(c *api.Config) { c.Delay = 0 },
		"delay 5":       func(c *api.Config) { c.Delay = 5 },
		"few keys":      func(c *api.Config) { c.Keys = 4 },
		"many keys":     func(c *api.Config) { c.Keys = 257 },
		"no E":          func(c *api.Config) { c.E = 0 },
		"great E":       func(c *api.Config) { c.E = 1601 },
		"short window":  func(c *api.Config) { c.Window = 99 },
		"long window":   func(c *api.Config) { c.Window = 1601 },
		"Rho -1":        func(c *api.Config) { c.Rho = -1 },
		"Rho 6":         func(c *api.Config) { c.Rho = 6 },
		"Slew -1":       func(c *api.Config) { c.Slew = -1 },
		"Slew 6":        func(c *api.Config) { c.Slew = 6 },
		"no cap":        func(c *api.Config) { c.Cap = 0 },
		"cap 65":        func(c *api.Config) { c.Cap = 65 },
		"nothing":       func(c *api.Config) { *c = api.Config{} },
	} {
		c := usual()
		change(&c)
		for _, i := range []int{-1, 0, 1, 2, 3, c.N - 1, c.N, math.MinInt, math.MaxInt} {
			if g, e := New(c, i); g != nil || e != api.ErrArg {
				t.Errorf("%s: New of %d = %v, %v", name, i, g, e)
			}
		}
	}
}

// P19.1: times worked out apart, in the order in which they come.
func TestDataNumbers(t *testing.T) {
	g := made(t, usual(), 1)
	for _, x := range []struct {
		at   int64
		r    int
		e    api.Errno
		last int
	}{
		{0, 0, api.ErrState, -1},
		{399, 0, api.ErrState, -1},
		{400, 0, api.OK, 0},
		{400, 0, api.ErrOld, 0},
		{799, 0, api.ErrOld, 0},
		{800, 0, api.ErrState, 0},
		{1199, 0, api.ErrState, 0},
		{1200, 0, api.ErrState, 0},
		{1599, 0, api.ErrState, 0},
		{1999, 1, api.OK, 1},
		{1600, 0, api.ErrOld, 1},
		{400, 0, api.ErrOld, 1},
		{-1, 0, api.ErrArg, 1},
		{12500, 10, api.OK, 10},
		{11300, 0, api.ErrOld, 10},
		{13600, 11, api.OK, 11},
		{12500, 0, api.ErrOld, 11},
		{12400, 0, api.ErrOld, 11},
		{12399, 0, api.ErrState, 11},
		{end40, 0, api.ErrArg, 11},
		{1258291200, 0, api.ErrArg, 11},
		{1258290800, 0, api.ErrState, 11},
		{1258290799, 1048575, api.OK, 1048575},
		{1258290799, 0, api.ErrOld, 1048575},
		{14800, 0, api.ErrOld, 1048575},
	} {
		if r, e := g.Data(x.at); r != x.r || e != x.e || g.Last() != x.last {
			t.Fatalf("Data(%d) = %d, %v, Last %d, want %+v", x.at, r, e, g.Last(), x)
		}
	}
}

// P19.1, P19.4: of each slot the first and the last time, one ahead and one behind, in the first, the last and other rounds; twice in one slot.
func TestSlotEnds(t *testing.T) {
	for _, c := range sizes() {
		for i := range c.N {
			for _, round := range []int{0, 1, 2, 64, 65, 1000, rounds20 - 2, rounds20 - 1} {
				from := first(c, round, i)
				to := from + int64(c.Slot) - 1
				for _, at := range []int64{from, from + 1, (from + to) / 2, to - 1, to} {
					g := made(t, c, i)
					if c.N > 1 {
						outside(t, g, c, from-1)
						outside(t, g, c, to+1)
					}
					speaks(t, g, at, round)
					for _, again := range []int64{at, from, to} {
						silent(t, g, again, api.ErrOld)
					}
					if c.N > 1 {
						outside(t, g, c, from-1)
						outside(t, g, c, to+1)
					}
				}
			}
		}
	}
}

// outside checks that a time beside a slot is refused.
func outside(t *testing.T, g *Guard, c api.Config, at int64) {
	t.Helper()
	want := api.ErrState
	if at < 0 || at >= end(c) {
		want = api.ErrArg
	}
	silent(t, g, at, want)
}

// P19.1: a node alone has all times: one ahead of its slot is in the round ahead, one behind in the next one.
func TestAlone(t *testing.T) {
	c := api.Config{N: 1, Slot: 300, Delay: 1, Keys: 5, E: 1, Window: 100, Cap: 1}
	g := made(t, c, 0)
	speaks(t, g, 0, 0)
	silent(t, g, 299, api.ErrOld)
	speaks(t, g, 300, 1)
	silent(t, g, 299, api.ErrOld)
	speaks(t, g, 899, 2)
	speaks(t, g, 900, 3)
	speaks(t, g, 300*rounds20-1, rounds20-1)
	silent(t, g, 300*rounds20, api.ErrArg)
}

// noPlaces are times that have none, of each config.
func noPlaces(c api.Config) []int64 {
	return []int64{-1, -2, -int64(c.Slot), -long(c), math.MinInt64, math.MinInt64 + 1, math.MinInt32, end(c), end(c) + 1, end(c) + int64(c.Slot), end(c) + long(c), end40 - 1, end40, end40 + 1, 1 << 62, math.MaxInt64 - 1, math.MaxInt64}
}

// P19.1, P19.2: times that have no place are refused by both, whatever was done, and change nothing.
func TestNoPlace(t *testing.T) {
	for _, c := range sizes() {
		for i := range c.N {
			p := newPair(t, c, i)
			for _, at := range noPlaces(c) {
				silent(t, p.g, at, api.ErrArg)
				others(t, p.g, at, 4*c.N+1, api.ErrArg)
			}
			for k := range 4 * c.N {
				p.does(t, other, first(c, 200, k%c.N))
			}
			p.does(t, data, first(c, 7, i))
			for _, at := range noPlaces(c) {
				silent(t, p.g, at, api.ErrArg)
				others(t, p.g, at, 2, api.ErrArg)
			}
			p.holds(t)
			others(t, p.g, first(c, 200, i), 1, api.ErrFull)
			silent(t, p.g, first(c, 7, i), api.ErrOld)
			p.g.Forget(rounds20)
			for _, at := range noPlaces(c) {
				silent(t, p.g, at, api.ErrArg)
			}
		}
	}
}

// P19.1: rounds below the one in which it spoke, just it, and above it.
func TestDataBackwards(t *testing.T) {
	c := usual()
	for i := range c.N {
		g := made(t, c, i)
		for _, round := range []int{5, 6, 9, 100, 70000, rounds20 - 1} {
			speaks(t, g, first(c, round, i), round)
			for _, below := range []int{round, round - 1, round - 2, round / 2, 1, 0} {
				silent(t, g, first(c, below, i), api.ErrOld)
				silent(t, g, first(c, below, i)+399, api.ErrOld)
			}
		}
	}
}

// P2: a time that has no place is told ahead of a wrong slot, a wrong slot ahead of a round that is old.
func TestErrorsInOrder(t *testing.T) {
	c := usual()
	g := made(t, c, 2)
	speaks(t, g, first(c, 9, 2), 9)
	for round := range 10 {
		silent(t, g, first(c, round, 0), api.ErrState)
		silent(t, g, first(c, round, 1)+399, api.ErrState)
		silent(t, g, first(c, round, 2), api.ErrOld)
	}
	g.Forget(math.MaxInt)
	silent(t, g, 0, api.ErrState)
	silent(t, g, 800, api.ErrOld)
	silent(t, g, end(c)-401, api.ErrState)
	silent(t, g, end(c)-1, api.ErrOld)
	silent(t, g, end(c), api.ErrArg)
}

// P19.1: Forget with rounds below, at and above the last one in which it spoke: the least one is it, and no other.
func TestForget(t *testing.T) {
	c := usual()
	for _, least := range []int{math.MinInt, math.MinInt32, -2, -1, 0, 1, 2, 19, 20, 21, 22, 100, rounds20 - 2, rounds20 - 1} {
		for i := range c.N {
			g := made(t, c, i)
			speaks(t, g, first(c, 20, i), 20)
			g.Forget(least)
			if g.Last() != -1 {
				t.Fatalf("Forget(%d): Last %d", least, g.Last())
			}
			from := max(least, 0)
			for _, below := range []int{0, from / 2, from - 2, from - 1} {
				if below >= 0 && below < from {
					silent(t, g, first(c, below, i), api.ErrOld)
				}
			}
			speaks(t, g, first(c, from, i), from)
			silent(t, g, first(c, from, i), api.ErrOld)
			if from+1 < rounds20 {
				speaks(t, g, first(c, from+1, i), from+1)
			}
		}
	}
}

// P19.1: with a least round that is none, it speaks no more, till it forgets that.
func TestForgetBeyond(t *testing.T) {
	c := usual()
	for _, least := range []int{rounds20, rounds20 + 1, 1 << 32, math.MaxInt32, math.MaxInt} {
		g := made(t, c, 1)
		g.Forget(least)
		for _, round := range []int{0, 1, 1000, rounds20 - 1} {
			silent(t, g, first(c, round, 1), api.ErrOld)
		}
		g.Forget(3)
		silent(t, g, first(c, 2, 1), api.ErrOld)
		speaks(t, g, first(c, 3, 1), 3)
	}
}

// P19.1: the last Forget counts, be its round above or below the one ahead of it; a new guard has the least round 0.
func TestForgetInRow(t *testing.T) {
	c := usual()
	g := made(t, c, 0)
	speaks(t, g, 0, 0)
	g.Forget(50)
	g.Forget(10)
	silent(t, g, first(c, 9, 0), api.ErrOld)
	speaks(t, g, first(c, 10, 0), 10)
	g.Forget(10)
	speaks(t, g, first(c, 10, 0), 10)
	g.Forget(0)
	g.Forget(60)
	silent(t, g, first(c, 59, 0), api.ErrOld)
	silent(t, g, first(c, 10, 0), api.ErrOld)
	speaks(t, g, first(c, 61, 0), 61)
	silent(t, g, first(c, 60, 0), api.ErrOld)
	g.Forget(-1)
	speaks(t, g, 0, 0)
}

// P19.2: 4 N in one round, at all its times, and once more.
func TestOther(t *testing.T) {
	for _, c := range sizes() {
		for _, round := range []int{0, 1, 63, 64, 65, 1000, rounds20 - 1} {
			g := made(t, c, 0)
			from := first(c, round, 0)
			for k := range 4 * c.N {
				others(t, g, from+int64(k)*(long(c)-1)/int64(4*c.N-1), 1, api.OK)
			}
			for _, at := range []int64{from, from + 1, from + long(c)/2, from + long(c) - 1} {
				others(t, g, at, 3, api.ErrFull)
			}
			if round > 0 {
				room(t, g, from-1, 4*c.N)
			}
			if round < rounds20-1 {
				room(t, g, from+long(c), 4*c.N)
			}
			others(t, g, from, 1, api.ErrFull)
		}
	}
}

// P19.2: rounds are counted each for itself, whatever comes between.
func TestOtherBetween(t *testing.T) {
	c := usual()
	g := made(t, c, 1)
	rounds := []int{130, 100, 164, 101, 163, 131}
	for k := range 12 {
		for j := range rounds {
			others(t, g, first(c, rounds[(j+k)%len(rounds)], k%3), 1, api.OK)
		}
	}
	for _, round := range rounds {
		others(t, g, first(c, round, 2), 2, api.ErrFull)
	}
	room(t, g, first(c, 132, 0), 12)
	room(t, g, first(c, 99, 0), 12)
}

// P19.2: what was let through 64 rounds below the one that is let through is known, 65 rounds below it is forgotten, with some and with all let through in them.
func TestOtherForgets(t *testing.T) {
	for _, c := range sizes() {
		all := 4 * c.N
		for _, some := range []int{1, all - 1, all} {
			for _, round := range []int{0, 1, 700, rounds20 - 1 - 130} {
				at := first(c, round, 0)
				g := made(t, c, c.N-1)
				others(t, g, at, some, api.OK)
				others(t, g, at+64*long(c)+long(c)-1, 1, api.OK)
				room(t, g, at, all-some)

				g = made(t, c, c.N-1)
				others(t, g, at, some, api.OK)
				others(t, g, at+65*long(c), 1, api.OK)
				room(t, g, at, all)

				g = made(t, c, c.N-1)
				others(t, g, at, some, api.OK)
				others(t, g, at+long(c), some, api.OK)
				others(t, g, at+65*long(c), 1, api.OK)
				room(t, g, at+long(c), all-some)
				room(t, g, at, all)
				room(t, g, at+65*long(c), all-1)
			}
		}
	}
}

// P19.2: all rounds that are more than 64 below are forgotten, not the lowest one alone; none above is.
func TestOtherForgetsAll(t *testing.T) {
	c := usual()
	for _, up := range []int{65, 66, 90, 130, 500, 100000} {
		p := newPair(t, c, 0)
		for round := 0; round <= 60; round++ {
			for range 12 {
				p.does(t, other, first(c, round, 1))
			}
		}
		p.does(t, other, first(c, up, 0))
		p.holds(t)
		for round := 60; round >= 0; round-- {
			want := api.ErrFull
			if up-round > 64 {
				want = api.OK
			}
			others(t, p.g, first(c, round, 2), 1, want)
		}
		others(t, p.g, first(c, up, 2), 11, api.OK)
		others(t, p.g, first(c, up, 2), 1, api.ErrFull)
	}
}

// P19.2: one that goes back forgets nothing above it, however far.
func TestOtherBackwards(t *testing.T) {
	c := usual()
	g := made(t, c, 0)
	rounds := []int{rounds20 - 1, 600000, 599999, 70000, 66, 65, 64, 1, 0}
	for _, round := range rounds {
		others(t, g, first(c, round, 0), 12, api.OK)
	}
	for _, round := range rounds {
		others(t, g, first(c, round, 2), 1, api.ErrFull)
	}
}

// P19.2: one that is refused forgets nothing, and is not counted.
func TestOtherRefused(t *testing.T) {
	c := usual()
	g := made(t, c, 0)
	high, low := first(c, 300, 0), first(c, 200, 0)
	others(t, g, high, 12, api.OK)
	others(t, g, low, 12, api.OK)
	others(t, g, high, 100, api.ErrFull)
	others(t, g, low, 1, api.ErrFull)
	others(t, g, -1, 1, api.ErrArg)
	others(t, g, end(c), 1, api.ErrArg)
	others(t, g, low, 1, api.ErrFull)
	others(t, g, high, 1, api.ErrFull)
	others(t, g, high+long(c), 1, api.OK)
	room(t, g, low, 12)
	others(t, g, high, 1, api.ErrFull)
}

// P19.1, P19.2: Data and Forget do not touch what is let through, nor Other what was said.
func TestKindsApart(t *testing.T) {
	c := usual()
	g := made(t, c, 1)
	at := first(c, 10, 1)
	others(t, g, at, 5, api.OK)
	if g.Last() != -1 {
		t.Fatalf("Last %d", g.Last())
	}
	speaks(t, g, at, 10)
	room(t, g, at, 7)
	if g.Last() != 10 {
		t.Fatalf("Last %d", g.Last())
	}
	g.Forget(20)
	others(t, g, at, 1, api.ErrFull)
	others(t, g, first(c, 5, 0), 3, api.OK)
	g.Forget(0)
	room(t, g, first(c, 5, 0), 9)
	speaks(t, g, first(c, 500, 1), 500)
	others(t, g, at, 1, api.ErrFull)
	others(t, g, first(c, 500, 1), 12, api.OK)
	silent(t, g, first(c, 500, 1), api.ErrOld)
	speaks(t, g, first(c, 501, 1), 501)
	g = made(t, c, 1)
	g.Forget(0)
	others(t, g, first(c, 900, 1), 12, api.OK)
	speaks(t, g, at, 10)
}

// P19.2: what is kept does not grow while times go on, and what is kept by times that went back is forgotten when they go on again.
func TestKeptIsFew(t *testing.T) {
	c := usual()
	g := made(t, c, 0)
	for round := range 5000 {
		others(t, g, first(c, round, 0), 1, api.OK)
		if len(g.others) > 65 || len(g.rounds) != len(g.others) {
			t.Fatalf("round %d: %d counts, %d rounds", round, len(g.others), len(g.rounds))
		}
	}
	g = made(t, c, 0)
	for round := rounds20 - 66; round >= 0; round-- {
		if e := g.Other(first(c, round, 0)); e != api.OK {
			t.Fatalf("round %d: %v", round, e)
		}
	}
	others(t, g, first(c, rounds20-1, 0), 1, api.OK)
	if len(g.others) != 1 || len(g.rounds) != 1 {
		t.Fatalf("%d counts, %d rounds", len(g.others), len(g.rounds))
	}
	room(t, g, 0, 12)
}

// P19.4: whatever the times and their order, in each round it speaks at most once, in its own slot, and ever later.
func TestOnceInEachRound(t *testing.T) {
	r := rand.New(rand.NewSource(19))
	for turn := range 300 {
		c := sizes()[turn%len(sizes())]
		i := r.Intn(c.N)
		g := made(t, c, i)
		spoke := map[int64]bool{}
		span := long(c) * int64(1+r.Intn(200))
		for range 400 {
			at := r.Int63n(span)
			if r.Intn(50) == 0 {
				at = r.Int63() >> r.Intn(63)
			}
			before := g.Last()
			round, e := g.Data(at)
			if e != api.OK {
				continue
			}
			mine := at%long(c)/int64(c.Slot) == int64(i)
			if spoke[at/long(c)] || int64(round) != at/long(c) || !mine || round <= before || g.Last() != round {
				t.Fatalf("of %+v, node %d: Data(%d) = %d, Last %d, then %d", c, i, at, round, before, g.Last())
			}
			spoke[at/long(c)] = true
		}
	}
}

// P19.4: all times of some rounds one behind the other, forwards: it speaks just once in each, at its slot's first time; backwards: in the last one alone.
func TestEachTime(t *testing.T) {
	for _, c := range []api.Config{usual(), {N: 1, Slot: 300, Delay: 1, Keys: 5, E: 1, Window: 100, Cap: 1}, {N: 4, F: 1, Slot: 301, Delay: 2, Keys: 16, E: 9, Window: 100, Cap: 1}} {
		for i := range c.N {
			p, back := newPair(t, c, i), newPair(t, c, i)
			var when []int64
			for at := range 5 * long(c) {
				if p.does(t, data, at) == api.OK {
					when = append(when, at)
				}
				back.does(t, data, 5*long(c)-1-at)
			}
			if len(when) != 5 || p.g.Last() != 4 || back.g.Last() != 4 || len(back.w.spoke) != 1 {
				t.Fatalf("of %+v, node %d: spoke at %v, backwards in %v", c, i, when, back.w.spoke)
			}
			for round, at := range when {
				if at != first(c, round, i) {
					t.Fatalf("of %+v, node %d: spoke at %v", c, i, when)
				}
			}
		}
	}
}

// aTime is a time near a round, or one of any size.
func aTime(r *rand.Rand, c api.Config, near int64) int64 {
	switch r.Intn(20) {
	case 0:
		return r.Int63()>>r.Intn(63) - r.Int63()>>r.Intn(63)
	case 1:
		return r.Int63n(end(c))
	case 2:
		return (near + int64(r.Intn(260)) - 130) * long(c)
	default:
		return near*long(c) + r.Int63n(3*long(c)) - long(c)
	}
}

// P19.1, P19.2: guards of several configs and slots, Data, Other and Forget in turn, at times of one round and of several, forwards and backwards, held against the chapter's words behind each act.
func TestInTurn(t *testing.T) {
	r := rand.New(rand.NewSource(64))
	for turn := range 400 {
		c := sizes()[turn%len(sizes())]
		p := newPair(t, c, r.Intn(c.N))
		near := r.Int63n(rounds20)
		if turn%3 == 0 {
			near = r.Int63n(200)
		}
		for range 400 {
			if r.Intn(8) == 0 {
				near += int64(r.Intn(7) - 2)
			}
			switch r.Intn(16) {
			case 0:
				p.does(t, forget, near+int64(r.Intn(7))-3)
			case 1:
				p.does(t, data, aTime(r, c, near))
			case 2, 3, 4, 5:
				p.does(t, data, first(c, int(near)+r.Intn(5)-2, p.w.i)+r.Int63n(int64(c.Slot)))
			case 6:
				p.does(t, other, (near+int64(63+r.Intn(4)))*long(c))
			case 7:
				p.does(t, other, (near-int64(63+r.Intn(4)))*long(c))
			default:
				p.does(t, other, aTime(r, c, near))
			}
		}
		p.holds(t)
	}
}

// P19.3, P1: a nil guard, and one that no call made; whatever it is asked, it stays so.
func TestNotMade(t *testing.T) {
	refused, _ := New(usual(), 3)
	for _, g := range []*Guard{nil, {}, new(Guard), refused} {
		for _, n := range []int64{0, 1, 400, -1, end40, end40 + 1, math.MaxInt64, math.MinInt64} {
			if r, e := g.Data(n); r != 0 || e != api.ErrZero {
				t.Fatalf("Data(%d) = %d, %v", n, r, e)
			}
			others(t, g, n, 2, api.ErrZero)
			if g.Last() != -1 {
				t.Fatalf("Last %d", g.Last())
			}
			g.Forget(int(n))
			if g.Last() != -1 {
				t.Fatalf("Last %d behind Forget", g.Last())
			}
		}
		if g != nil && (g.config != api.Config{} || g.node != 0 || g.last != 0 || g.least != 0 || g.others != nil || g.rounds != nil) {
			t.Errorf("it has changed: %+v", g)
		}
	}
}

// P5: two guards with the same acts answer the same, and neither touches the other; to be asked changes nothing.
func TestApart(t *testing.T) {
	c := usual()
	one, two := made(t, c, 0), made(t, c, 0)
	for range 2 {
		speaks(t, one, first(c, 4, 0), 4)
		others(t, one, first(c, 4, 0), 12, api.OK)
		others(t, one, first(c, 4, 0), 1, api.ErrFull)
		one.Forget(5)
		for range 3 {
			silent(t, one, first(c, 4, 0), api.ErrOld)
			if two.Last() != -1 {
				t.Fatalf("Last %d", two.Last())
			}
		}
		one, two = two, one
	}
}

// P1, P6: the greatest and the least numbers, in every call, in turn.
func TestEnds(t *testing.T) {
	ends := []int64{math.MinInt64, math.MinInt64 + 1, math.MinInt32, -end40, -1, 0, 1, math.MaxInt32, rounds20 - 1, rounds20, end40 - 1, end40, end40 + 1, math.MaxInt64 - 1, math.MaxInt64}
	for _, c := range sizes() {
		for i := range c.N {
			p := newPair(t, c, i)
			for _, a := range ends {
				p.does(t, forget, a)
				for _, b := range ends {
					p.does(t, data, b)
					p.does(t, other, b)
				}
			}
			p.holds(t)
		}
	}
}

// P1, P19.1 to P19.4: whatever is asked in turn is answered as the chapter's words say.
func FuzzAll(f *testing.F) {
	f.Add(3, 400, 1, int64(500), int64(1700), int64(78500), uint16(0))
	f.Add(1, 300, 0, int64(0), int64(19500), int64(19200), uint16(0x5555))
	f.Add(8, 10000, 7, int64(end40), int64(-1), int64(math.MaxInt64), uint16(0xFFFF))
	f.Add(9, 299, -1, int64(math.MinInt64), int64(1), int64(2), uint16(1))
	f.Fuzz(func(t *testing.T, n int, slot int, i int, a int64, b int64, d int64, kinds uint16) {
		c := api.Config{N: n, Slot: slot, Delay: 1, Keys: 16, E: 100, Window: 100, Cap: 8}
		if n < 1 || n > 8 || slot < 300 || slot > 10000 || i < 0 || i >= n {
			if g, e := New(c, i); g != nil || e != api.ErrArg {
				t.Fatalf("New(%+v, %d) = %v, %v", c, i, g, e)
			}
			return
		}
		p := newPair(t, c, i)
		for range 5 {
			for k, at := range []int64{a, b, d, a % end(c), b % (100 * long(c)), d % (2 * long(c)), a % (70 * long(c)), b, d} {
				p.does(t, int(kinds>>k)%acts, at)
			}
		}
		p.holds(t)
	})
}
