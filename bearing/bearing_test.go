package bearing

import (
	"math"
	"math/rand"
	"reflect"
	"slices"
	"testing"

	"carillon/api"
	"carillon/ival"
	"carillon/osc"
	"carillon/rate"
	"carillon/sched"
)

// The limits as the document writes them.
const (
	end40  = 1 << 40
	nodes8 = 8
)

// usual is a config that is right, with rounds of 1200, so that what is known is fresh for 2400, and a drift of 3 in all.
func usual() api.Config {
	return api.Config{N: 3, Slot: 400, Delay: 1, Keys: 16, E: 400, Window: 400, Rho: 1, Slew: 2, Cap: 8}
}

// wide is a config of four nodes with the E of the chapter's example.
func wide() api.Config {
	return api.Config{N: 4, F: 1, Slot: 400, Delay: 2, Keys: 16, E: 60, Window: 400, Rho: 1, Slew: 2, Cap: 8}
}

// sizes are configs that are right: the least, the greatest, and one of each number of nodes.
func sizes() []api.Config {
	all := []api.Config{
		usual(),
		{N: 1, Slot: 300, Delay: 1, Keys: 5, E: 1, Window: 100, Cap: 1},
		{N: 8, F: 2, Slot: 10000, Delay: 4, Keys: 256, E: 40000, Window: 40000, Rho: 5, Slew: 5, Cap: 64},
	}
	for n := 1; n <= nodes8; n++ {
		all = append(all, api.Config{N: n, F: (n - 1) / 3, Slot: 300 + 97*n, Delay: 1 + n%4, Keys: 8 + 31*(n-1), E: 150 * n, Window: 100 + 101*n, Rho: n % 6, Slew: (n * 5) % 6, Cap: 8 * n})
	}
	return all
}

// several are those of them with more nodes than one.
func several() []api.Config {
	return slices.DeleteFunc(sizes(), func(c api.Config) bool { return c.N < 2 })
}

// keep is for how long what is known is fresh.
func keep(c api.Config) int64 {
	return 2 * int64(c.N) * int64(c.Slot)
}

// room is by how much an interval grows on each side in a.
func room(c api.Config, a int64) int64 {
	d := int64(c.Rho + c.Slew)
	most := a * (100 + d) / (100 - d)
	least := a * (100 - d) / (100 + d)
	if least*(100+d) != a*(100-d) {
		least++
	}
	return max(most-a, a-least)
}

// span is an interval.
func span(lo int64, hi int64) api.Ival {
	return api.Ival{Lo: lo, Hi: hi}
}

// right tells whether an interval is.
func right(x api.Ival) bool {
	return -1099511627776 <= x.Lo && x.Lo <= x.Hi && x.Hi <= 1099511627776
}

// said is what was put of a node.
type said struct {
	is   bool
	off  api.Ival
	when int64
}

// words is a table by the chapter's words.
type words struct {
	c     api.Config
	i     int
	known [nodes8]said
}

func (w *words) can(from int, now int64) bool {
	return from >= 0 && from < w.c.N && from != w.i && now >= 0 && now <= 1099511627776
}

func (w *words) put(from int, off api.Ival, now int64) api.Errno {
	if !w.can(from, now) || !right(off) {
		return api.ErrArg
	}
	if w.known[from].is && w.known[from].when > now {
		return api.ErrOld
	}
	if was, e := w.at(from, now); e == api.OK && was.Lo <= off.Hi && off.Lo <= was.Hi {
		off = span(max(was.Lo, off.Lo), min(was.Hi, off.Hi))
	}
	w.known[from] = said{true, off, now}
	return api.OK
}

func (w *words) at(from int, now int64) (api.Ival, api.Errno) {
	if !w.can(from, now) {
		return api.Ival{}, api.ErrArg
	}
	k := w.known[from]
	if !k.is || now < k.when || now-k.when > keep(w.c) {
		return api.Ival{}, api.ErrNone
	}
	more := room(w.c, now-k.when)
	x := span(k.off.Lo-more, k.off.Hi+more)
	if !right(x) {
		return api.Ival{}, api.ErrNone
	}
	return x, api.OK
}

func (w *words) most(from int, now int64) (int64, api.Errno) {
	x, e := w.at(from, now)
	if e != api.OK {
		return 0, e
	}
	if now+x.Hi < 0 {
		return 0, api.OK
	}
	return now + x.Hi, api.OK
}

// all tells Fresh, Near and Offsets.
func (w *words) all(now int64) ([]int, int, []api.Ival) {
	var fresh []int
	var offs []api.Ival
	near := 1
	for j := 0; j < w.c.N; j++ {
		x, e := w.at(j, now)
		if j == w.i {
			offs = append(offs, api.Ival{})
		}
		if e != api.OK {
			continue
		}
		fresh, offs = append(fresh, j), append(offs, x)
		if x.Lo >= -int64(w.c.E) && x.Hi <= int64(w.c.E) {
			near++
		}
	}
	return fresh, near, offs
}

// twin is a table, and the same one by the chapter's words.
type twin struct {
	t *Table
	w *words
}

func newTwin(t testing.TB, c api.Config, i int) twin {
	t.Helper()
	d, e := New(c, i)
	if d == nil || e != api.OK {
		t.Fatalf("New(%+v, %d) = %v, %v", c, i, d, e)
	}
	p := twin{d, &words{c: c, i: i}}
	p.tells(t, 0)
	return p
}

// put lets both take an interval.
func (p twin) put(t testing.TB, from int, off api.Ival, now int64) api.Errno {
	t.Helper()
	got, want := p.t.Put(from, off, now), p.w.put(from, off, now)
	if got != want {
		t.Fatalf("node %d: Put(%d, %v, %d) = %v, want %v", p.w.i, from, off, now, got, want)
	}
	return got
}

// puts is put of what is answered so.
func (p twin) puts(t testing.TB, from int, off api.Ival, now int64, want api.Errno) {
	t.Helper()
	if e := p.put(t, from, off, now); e != want {
		t.Fatalf("node %d: Put(%d, %v, %d) = %v, want %v", p.w.i, from, off, now, e, want)
	}
}

// at holds what At and Most tell against the words.
func (p twin) at(t testing.TB, from int, now int64) (api.Ival, api.Errno) {
	t.Helper()
	x, e := p.t.At(from, now)
	if want, wantE := p.w.at(from, now); x != want || e != wantE {
		t.Fatalf("node %d: At(%d, %d) = %v, %v, want %v, %v", p.w.i, from, now, x, e, want, wantE)
	}
	m, mE := p.t.Most(from, now)
	if want, wantE := p.w.most(from, now); m != want || mE != wantE {
		t.Fatalf("node %d: Most(%d, %d) = %d, %v, want %d, %v", p.w.i, from, now, m, mE, want, wantE)
	}
	return x, e
}

// holds is at of what is told so.
func (p twin) holds(t testing.TB, from int, now int64, want api.Ival) {
	t.Helper()
	if x, e := p.at(t, from, now); x != want || e != api.OK {
		t.Fatalf("node %d: At(%d, %d) = %v, %v, want %v", p.w.i, from, now, x, e, want)
	}
}

// none is at of what is refused.
func (p twin) none(t testing.TB, from int, now int64, want api.Errno) {
	t.Helper()
	if x, e := p.at(t, from, now); x != (api.Ival{}) || e != want {
		t.Fatalf("node %d: At(%d, %d) = %v, %v, want %v", p.w.i, from, now, x, e, want)
	}
}

// tells holds all that is told at a time against the words.
func (p twin) tells(t testing.TB, now int64) {
	t.Helper()
	for j := -1; j <= nodes8; j++ {
		p.at(t, j, now)
	}
	fresh, near, offs := p.w.all(now)
	if got := p.t.Fresh(now); !slices.Equal(got, fresh) {
		t.Fatalf("node %d: Fresh(%d) = %v, want %v", p.w.i, now, got, fresh)
	}
	if got := p.t.Near(now); got != near {
		t.Fatalf("node %d: Near(%d) = %d, want %d", p.w.i, now, got, near)
	}
	if got := p.t.Offsets(now); !slices.Equal(got, offs) {
		t.Fatalf("node %d: Offsets(%d) = %v, want %v", p.w.i, now, got, offs)
	}
}

// clear lets both forget.
func (p twin) clear() {
	p.t.Clear()
	p.w.known = [nodes8]said{}
}

// noTimes are numbers that are no times.
func noTimes() []int64 {
	return []int64{-1, -2, -2400, math.MinInt32, -end40, math.MinInt64, math.MinInt64 + 1, end40 + 1, end40 + 2400, 1 << 62, math.MaxInt64 - 1, math.MaxInt64}
}

// noOthers are numbers that are no other node of a config.
func noOthers(c api.Config, i int) []int {
	return []int{i, -1, -2, c.N, c.N + 1, nodes8, -c.N, 256, 1 << 32, math.MinInt, math.MinInt + 1, math.MaxInt, math.MinInt32, math.MaxInt32}
}

// noIvals are intervals that are not right.
func noIvals() []api.Ival {
	return []api.Ival{span(1, 0), span(0, -1), span(end40, end40-1), span(-end40-1, 0), span(0, end40+1), span(-end40-1, -end40-1), span(end40+1, end40+1), span(-end40-1, end40+1), span(math.MinInt64, math.MaxInt64), span(math.MaxInt64, math.MinInt64), span(math.MinInt64, math.MinInt64), span(math.MaxInt64, math.MaxInt64), span(0, math.MaxInt64), span(math.MinInt64, 0)}
}

// The chapter's example.
func TestExample(t *testing.T) {
	for i := range 4 {
		if i == 1 {
			continue
		}
		p := newTwin(t, wide(), i)
		p.puts(t, 1, span(-50, 60), 0, api.OK)
		if n := p.t.Near(0); n != 2 {
			t.Errorf("Near(0) = %d", n)
		}
	}
}

// P24.1: nodes at their ends; nothing is known at first, whenever it is asked.
func TestNew(t *testing.T) {
	for _, c := range sizes() {
		for i := range c.N {
			p := newTwin(t, c, i)
			for _, now := range []int64{0, 1, keep(c), keep(c) + 1, end40 - 1, end40} {
				p.tells(t, now)
				if p.t.Near(now) != 1 || len(p.t.Fresh(now)) != 0 || !slices.Equal(p.t.Offsets(now), []api.Ival{{}}) {
					t.Fatalf("of %+v, node %d at %d: %d, %v, %v", c, i, now, p.t.Near(now), p.t.Fresh(now), p.t.Offsets(now))
				}
			}
		}
		for _, i := range noOthers(c, -1) {
			if d, e := New(c, i); d != nil || e != api.ErrArg {
				t.Errorf("New(%+v, %d) = %v, %v", c, i, d, e)
			}
		}
	}
}

// P24.1: configs that are not right, one number of them beyond its end, with nodes that are and are not.
func TestNewConfig(t *testing.T) {
	for name, change := range map[string]func(*api.Config){
		"no nodes":      func(c *api.Config) { c.N = 0 },
		"nodes below 0": func(c *api.Config) { c.N = math.MinInt },
		"9 nodes":       func(c *api.Config) { c.N = 9 },
		"most nodes":    func(c *api.Config) { c.N = math.MaxInt },
		"F -1":          func(c *api.Config) { c.F = -1 },
		"3 F is N":      func(c *api.Config) { c.F = 1 },
		"most F":        func(c *api.Config) { c.F = math.MaxInt },
		"short slot":    func(c *api.Config) { c.Slot = 299 },
		"long slot":     func(c *api.Config) { c.Slot = 10001 },
		"longest slot":  func(c *api.Config) { c.Slot = math.MaxInt },
		"no delay":      func(c *api.Config) { c.Delay = 0 },
		"delay 5":       func(c *api.Config) { c.Delay = 5 },
		"few keys":      func(c *api.Config) { c.Keys = 4 },
		"many keys":     func(c *api.Config) { c.Keys = 257 },
		"no E":          func(c *api.Config) { c.E = 0 },
		"great E":       func(c *api.Config) { c.E = 1601 },
		"short window":  func(c *api.Config) { c.Window = 99 },
		"long window":   func(c *api.Config) { c.Window = 1601 },
		"Rho -1":        func(c *api.Config) { c.Rho = -1 },
		"Rho 6":         func(c *api.Config) { c.Rho = 6 },
		"Slew -1":       func(c *api.Config) { c.Slew = -1 },
		"Slew 6":        func(c *api.Config) { c.Slew = 6 },
		"no cap":        func(c *api.Config) { c.Cap = 0 },
		"cap 65":        func(c *api.Config) { c.Cap = 65 },
		"nothing":       func(c *api.Config) { *c = api.Config{} },
	} {
		c := usual()
		change(&c)
		for _, i := range []int{-1, 0, 1, 2, 3, c.N - 1, c.N, math.MinInt, math.MaxInt} {
			if d, e := New(c, i); d != nil || e != api.ErrArg {
				t.Errorf("%s: New of %d = %v, %v", name, i, d, e)
			}
		}
	}
}

// P24.1, P24.2: each node of others, of each config: what was put is told of it, and of no other.
func TestEachNode(t *testing.T) {
	for _, c := range several() {
		for i := range c.N {
			for from := range c.N {
				p := newTwin(t, c, i)
				if from == i {
					p.puts(t, from, span(0, 0), 1000, api.ErrArg)
					p.none(t, from, 1000, api.ErrArg)
					continue
				}
				p.puts(t, from, span(-7, 9), 1000, api.OK)
				p.holds(t, from, 1000, span(-7, 9))
				p.tells(t, 1000)
				if !slices.Equal(p.t.Fresh(1000), []int{from}) {
					t.Fatalf("Fresh: %v, want %d", p.t.Fresh(1000), from)
				}
			}
		}
	}
}

// P24.1: what Put refuses, in each place, and where several are wrong; nothing changes by it.
func TestPutWrong(t *testing.T) {
	for _, c := range sizes() {
		for i := range c.N {
			p := newTwin(t, c, i)
			other := (i + 1) % c.N
			if c.N > 1 {
				p.puts(t, other, span(-3, 4), 5000, api.OK)
			}
			for _, from := range append(noOthers(c, i), other) {
				for _, off := range append(noIvals(), span(0, 0)) {
					for _, now := range append(noTimes(), 0, 4999, 5000, 5001, end40) {
						if from == other && off == span(0, 0) && now >= 0 && now <= end40 {
							continue
						}
						p.puts(t, from, off, now, api.ErrArg)
					}
				}
			}
			p.tells(t, 5000)
			p.tells(t, 5000+keep(c))
		}
	}
}

// P24.1: the ends of what Put takes.
func TestPutEnds(t *testing.T) {
	for _, now := range []int64{0, 1, end40 - 1, end40} {
		for _, off := range []api.Ival{span(-end40, end40), span(-end40, -end40), span(end40, end40), span(0, 0), span(-1, -1), span(1, 1), span(-end40, 0), span(0, end40), span(end40-1, end40)} {
			p := newTwin(t, usual(), 0)
			p.puts(t, 2, off, now, api.OK)
			p.holds(t, 2, now, off)
			p.tells(t, now)
		}
	}
}

// P24.1: what is known of a later time is not replaced, be it fresh or not; one of the same time is met.
func TestPutOld(t *testing.T) {
	for _, c := range several() {
		p := newTwin(t, c, 0)
		p.puts(t, 1, span(-50, 60), 100000, api.OK)
		for _, now := range []int64{0, 1, 100000 - keep(c) - 1, 99999} {
			p.puts(t, 1, span(0, 0), max(now, 0), api.ErrOld)
			p.puts(t, 1, span(1, 0), max(now, 0), api.ErrArg)
			p.puts(t, 0, span(0, 0), max(now, 0), api.ErrArg)
			p.holds(t, 1, 100000, span(-50, 60))
		}
		p.puts(t, 1, span(-20, 70), 100000, api.OK)
		p.holds(t, 1, 100000, span(-20, 60))
		p.puts(t, 1, span(5, 5), 100001, api.OK)
		p.puts(t, 1, span(5, 5), 100000, api.ErrOld)
		p.puts(t, 1, span(6, 6), end40, api.OK)
		p.puts(t, 1, span(6, 6), end40-1, api.ErrOld)
		p.puts(t, 1, span(6, 6), 0, api.ErrOld)
	}
}

// P24.1: a time that is old of one node is none of another.
func TestPutOldOfOthers(t *testing.T) {
	p := newTwin(t, wide(), 2)
	p.puts(t, 0, span(0, 1), 9000, api.OK)
	p.puts(t, 1, span(0, 2), 8000, api.OK)
	p.puts(t, 3, span(0, 3), 0, api.OK)
	p.puts(t, 1, span(0, 2), 8999, api.OK)
	p.puts(t, 0, span(0, 1), 8999, api.ErrOld)
	p.tells(t, 9000)
}

// P24.1: at one time: what both hold, just one number, and what does not meet.
func TestPutMeets(t *testing.T) {
	for _, x := range []struct{ was, off, want api.Ival }{
		{span(-50, 60), span(-50, 60), span(-50, 60)},
		{span(-50, 60), span(-10, 10), span(-10, 10)},
		{span(-10, 10), span(-50, 60), span(-10, 10)},
		{span(-50, 60), span(0, 100), span(0, 60)},
		{span(-50, 60), span(-100, 0), span(-50, 0)},
		{span(-50, 60), span(60, 90), span(60, 60)},
		{span(-50, 60), span(-90, -50), span(-50, -50)},
		{span(-50, 60), span(61, 90), span(61, 90)},
		{span(-50, 60), span(-90, -51), span(-90, -51)},
		{span(5, 5), span(5, 5), span(5, 5)},
		{span(5, 5), span(6, 6), span(6, 6)},
		{span(-end40, end40), span(7, 8), span(7, 8)},
		{span(7, 8), span(-end40, end40), span(7, 8)},
		{span(-end40, -end40), span(end40, end40), span(end40, end40)},
	} {
		p := newTwin(t, usual(), 1)
		p.puts(t, 0, x.was, 1200, api.OK)
		p.puts(t, 0, x.off, 1200, api.OK)
		p.holds(t, 0, 1200, x.want)
	}
}

// P24.1: what is known grows to the time of what it is met with: 1000 with drift 3 are 61 on each side.
func TestPutMeetsGrown(t *testing.T) {
	for _, x := range []struct{ off, want api.Ival }{
		{span(-200, 200), span(-111, 121)},
		{span(0, 10), span(0, 10)},
		{span(121, 300), span(121, 121)},
		{span(122, 300), span(122, 300)},
		{span(-300, -111), span(-111, -111)},
		{span(-300, -112), span(-300, -112)},
	} {
		p := newTwin(t, usual(), 1)
		p.puts(t, 0, span(-50, 60), 1000, api.OK)
		p.puts(t, 0, x.off, 2000, api.OK)
		p.holds(t, 0, 2000, x.want)
		p.holds(t, 0, 3000, span(x.want.Lo-61, x.want.Hi+61))
	}
}

// P24.1: what is met is of now: its freshness begins again, and it grows from there on.
func TestPutIsOfNow(t *testing.T) {
	for _, c := range several() {
		p := newTwin(t, c, 1)
		p.puts(t, 0, span(-5, 5), 0, api.OK)
		for k := range int64(20) {
			now := (k + 1) * keep(c)
			p.puts(t, 0, span(-end40, end40), now, api.OK)
			p.tells(t, now)
			more := (k + 1) * room(c, keep(c))
			p.holds(t, 0, now, span(-5-more, 5+more))
		}
		now := 21*keep(c) + 1
		p.puts(t, 0, span(-end40, end40), now, api.OK)
		p.holds(t, 0, now, span(-end40, end40))
	}
}

// P24.1: just fresh, what is known is met; no more fresh, it is not, nor is one that is met behind it with the older ones.
func TestPutFresh(t *testing.T) {
	for _, c := range several() {
		for _, gone := range []int64{0, 1, keep(c) - 1, keep(c), keep(c) + 1, keep(c) + 2, 3 * keep(c), end40 - 77} {
			p := newTwin(t, c, c.N-1)
			p.puts(t, 0, span(-5, 5), 77, api.OK)
			p.puts(t, 0, span(-end40, end40), 77+gone, api.OK)
			want := span(-end40, end40)
			if gone <= keep(c) {
				want = span(-5-room(c, gone), 5+room(c, gone))
			}
			p.holds(t, 0, 77+gone, want)
		}
	}
}

// P24.1: one that can't grow leaves what is put alone, even where both would meet.
func TestPutNotGrown(t *testing.T) {
	for _, x := range []struct{ was, off api.Ival }{
		{span(-end40, 60), span(-50, 100)},
		{span(-50, end40), span(-100, 60)},
		{span(-end40, end40), span(-100, 60)},
		{span(-end40+60, 60), span(-50, 100)},
		{span(-50, end40-60), span(-100, 60)},
	} {
		p := newTwin(t, usual(), 1)
		p.puts(t, 0, x.was, 1000, api.OK)
		p.puts(t, 0, x.off, 2000, api.OK)
		p.holds(t, 0, 2000, x.off)
	}
	p := newTwin(t, usual(), 1)
	p.puts(t, 0, span(-end40+61, 60), 1000, api.OK)
	p.puts(t, 0, span(-50, 200), 2000, api.OK)
	p.holds(t, 0, 2000, span(-50, 121))
}

// P24.2: numbers worked out apart: with drift 3 from 1000 on.
func TestAtNumbers(t *testing.T) {
	p := newTwin(t, usual(), 1)
	p.puts(t, 0, span(-50, 60), 1000, api.OK)
	for _, x := range []struct {
		now  int64
		more int64
	}{
		{1000, 0}, {1001, 0}, {1016, 0}, {1017, 1}, {1032, 1}, {1033, 2}, {1097, 6}, {1100, 6}, {1103, 6}, {1200, 12}, {2000, 61}, {3400, 148},
	} {
		p.holds(t, 0, x.now, span(-50-x.more, 60+x.more))
	}
	p.none(t, 0, 999, api.ErrNone)
	p.none(t, 0, 3401, api.ErrNone)
}

// P24.2: without a drift nothing grows.
func TestAtNoDrift(t *testing.T) {
	c := usual()
	c.Rho, c.Slew = 0, 0
	p := newTwin(t, c, 0)
	p.puts(t, 1, span(-end40, end40), 500, api.OK)
	for _, now := range []int64{500, 501, 1700, 2900} {
		p.holds(t, 1, now, span(-end40, end40))
	}
	p.none(t, 1, 2901, api.ErrNone)
}

// P24.2: both Rho and Slew count.
func TestAtDrifts(t *testing.T) {
	for rho := range 6 {
		for slew := range 6 {
			c := usual()
			c.Rho, c.Slew = rho, slew
			p := newTwin(t, c, 0)
			p.puts(t, 1, span(1, 2), 10, api.OK)
			more, _ := rate.Spread(1000, rho+slew)
			p.holds(t, 1, 1010, span(1-more, 2+more))
			if (more > 0) != (rho+slew > 0) {
				t.Fatalf("Spread(1000, %d) = %d", rho+slew, more)
			}
		}
	}
}

// P24.2: from when to when it is told, at any time of being put.
func TestAtFresh(t *testing.T) {
	for _, c := range several() {
		for _, when := range []int64{0, 1, 12345, end40 - keep(c) - 1, end40 - keep(c), end40 - 1, end40} {
			p := newTwin(t, c, 0)
			p.puts(t, 1, span(-1, 1), when, api.OK)
			for _, now := range []int64{0, when - 1, when - 2, when - keep(c), when + keep(c) + 1, when + keep(c) + 2, when + 2*keep(c), end40} {
				if now >= 0 && now <= end40 && (now < when || now > when+keep(c)) {
					p.none(t, 1, now, api.ErrNone)
					p.tells(t, now)
				}
			}
			for _, gone := range []int64{0, 1, 2, 99, keep(c) / 2, keep(c) - 1, keep(c)} {
				if when+gone <= end40 {
					more := room(c, gone)
					p.holds(t, 1, when+gone, span(-1-more, 1+more))
					p.tells(t, when+gone)
				}
			}
		}
	}
}

// P24.2: asked at later times and at earlier ones again, it tells the same.
func TestAtBackwards(t *testing.T) {
	p := newTwin(t, usual(), 0)
	p.puts(t, 1, span(-9, 9), 4000, api.OK)
	for range 2 {
		for _, now := range []int64{9000, 6401, 6400, 5000, 4000, 3999, 0, -1, 6400, 4000} {
			p.tells(t, now)
		}
	}
}

// P24.2: what can't grow is not told, while it is at the very time.
func TestAtNotGrown(t *testing.T) {
	for _, off := range []api.Ival{span(-end40, 0), span(0, end40), span(-end40, end40), span(-end40+5, 0), span(0, end40-5)} {
		p := newTwin(t, wide(), 0)
		p.puts(t, 3, off, 1000, api.OK)
		p.puts(t, 1, span(0, 0), 1000, api.OK)
		p.holds(t, 3, 1000, off)
		p.none(t, 3, 1100, api.ErrNone)
		p.tells(t, 1100)
		if !slices.Equal(p.t.Fresh(1100), []int{1}) || len(p.t.Offsets(1100)) != 2 || p.t.Near(1100) != 2 {
			t.Errorf("%v: %v, %v, %d", off, p.t.Fresh(1100), p.t.Offsets(1100), p.t.Near(1100))
		}
	}
	p := newTwin(t, wide(), 0)
	p.puts(t, 3, span(-end40+6, end40-6), 1000, api.OK)
	p.holds(t, 3, 1100, span(-end40, end40))
	p.none(t, 3, 1117, api.ErrNone)
}

// P24.2: what At and Most refuse, known or not, and where both are wrong.
func TestAtWrong(t *testing.T) {
	for _, c := range sizes() {
		for i := range c.N {
			p := newTwin(t, c, i)
			for range 2 {
				for _, from := range append(noOthers(c, i), (i+1)%c.N) {
					for _, now := range append(noTimes(), 0, 5000, end40) {
						if from == (i+1)%c.N && c.N > 1 && now >= 0 && now <= end40 {
							continue
						}
						p.none(t, from, now, api.ErrArg)
						if m, e := p.t.Most(from, now); m != 0 || e != api.ErrArg {
							t.Fatalf("Most(%d, %d) = %d, %v", from, now, m, e)
						}
					}
				}
				if c.N > 1 {
					p.puts(t, (i+1)%c.N, span(-3, 4), 5000, api.OK)
				}
			}
		}
	}
}

// P24.2: at no time there are no others, but the own one stays where it is.
func TestNoTimes(t *testing.T) {
	for _, c := range sizes() {
		for i := range c.N {
			p := newTwin(t, c, i)
			for from := range c.N {
				p.put(t, from, span(0, 0), 0)
			}
			for _, now := range noTimes() {
				if fresh, near, offs := p.t.Fresh(now), p.t.Near(now), p.t.Offsets(now); len(fresh) != 0 || near != 1 || !slices.Equal(offs, []api.Ival{{}}) {
					t.Fatalf("at %d: %v, %d, %v", now, fresh, near, offs)
				}
				p.tells(t, now)
			}
		}
	}
}

// P24.2: the nodes of which something is told, rising, whatever the order in which they were put.
func TestFreshRises(t *testing.T) {
	c := sizes()[2]
	random := rand.New(rand.NewSource(1))
	for turn := range 200 {
		i := turn % c.N
		p := newTwin(t, c, i)
		var want []int
		for _, from := range random.Perm(c.N) {
			if from != i && random.Intn(3) > 0 {
				p.puts(t, from, span(int64(-from), int64(from)), int64(1000*from), api.OK)
				want = append(want, from)
			}
		}
		slices.Sort(want)
		if got := p.t.Fresh(8000); !slices.Equal(got, want) {
			t.Fatalf("Fresh(8000) = %v, want %v", got, want)
		}
		p.tells(t, 8000)
		p.tells(t, 4000)
		p.tells(t, 1000+keep(c))
		p.tells(t, 4000+keep(c))
		p.tells(t, 7001+keep(c))
	}
}

// P24.2: inside E, at both ends and one beyond.
func TestNear(t *testing.T) {
	for _, c := range several() {
		e := int64(c.E)
		for _, x := range []struct {
			off  api.Ival
			near int
		}{
			{span(0, 0), 2}, {span(-e, e), 2}, {span(e, e), 2}, {span(-e, -e), 2}, {span(-e, 0), 2}, {span(0, e), 2},
			{span(-e-1, 0), 1}, {span(0, e+1), 1}, {span(-e-1, e), 1}, {span(-e, e+1), 1}, {span(-e-1, e+1), 1},
			{span(e+1, e+1), 1}, {span(-e-1, -e-1), 1}, {span(-end40, end40), 1}, {span(end40, end40), 1},
		} {
			p := newTwin(t, c, 0)
			p.puts(t, c.N-1, x.off, 3000, api.OK)
			if n := p.t.Near(3000); n != x.near {
				t.Errorf("of %+v, %v: Near = %d", c, x.off, n)
			}
			p.tells(t, 3000)
		}
	}
}

// P24.2: an interval that has grown is inside E no more, though it is told still.
func TestNearGrown(t *testing.T) {
	p := newTwin(t, usual(), 0)
	p.puts(t, 1, span(-394, 394), 1000, api.OK)
	p.puts(t, 2, span(0, 0), 1000, api.OK)
	for _, x := range []struct {
		now  int64
		near int
	}{{999, 1}, {1000, 3}, {1100, 3}, {1113, 3}, {1114, 2}, {3400, 2}, {3401, 1}} {
		if n := p.t.Near(x.now); n != x.near {
			t.Errorf("Near(%d) = %d, want %d", x.now, n, x.near)
		}
		p.tells(t, x.now)
	}
}

// P24.2: all others, from none to each, of each config.
func TestNearCounts(t *testing.T) {
	for _, c := range sizes() {
		for i := range c.N {
			p := newTwin(t, c, i)
			for k, from := range rand.New(rand.NewSource(int64(i))).Perm(c.N) {
				if p.put(t, from, span(0, 1), 2000) == api.OK {
					p.tells(t, 2000)
				}
				if n := p.t.Near(2000); n != len(p.t.Fresh(2000))+1 || n < k+1 || n > k+2 {
					t.Fatalf("Near = %d behind %d", n, k+1)
				}
			}
			if n := p.t.Near(2000); n != c.N {
				t.Fatalf("Near = %d of %d", n, c.N)
			}
		}
	}
}

// P24.2: the greatest time: now and Hi, as it has grown, never below 0; beyond MaxTime it is told as it is.
func TestMost(t *testing.T) {
	for _, x := range []struct {
		off  api.Ival
		now  int64
		most int64
	}{
		{span(-50, 60), 1000, 1060},
		{span(-50, 60), 1200, 1272},
		{span(-50, 60), 3400, 3608},
		{span(-2000, -999), 1000, 1},
		{span(-2000, -1000), 1000, 0},
		{span(-2000, -1001), 1000, 0},
		{span(-2000, -1012), 1000, 0},
		{span(-2000, -1212), 1200, 0},
		{span(-2000, -1211), 1200, 1},
		{span(-2000, -1213), 1200, 0},
		{span(-end40, -end40), 1000, 0},
		{span(0, end40), 1000, end40 + 1000},
	} {
		p := newTwin(t, usual(), 1)
		p.puts(t, 0, x.off, 1000, api.OK)
		if m, e := p.t.Most(0, x.now); m != x.most || e != api.OK {
			t.Errorf("%v: Most(0, %d) = %d, %v, want %d", x.off, x.now, m, e, x.most)
		}
	}
	p := newTwin(t, usual(), 1)
	p.puts(t, 0, span(0, end40), end40, api.OK)
	if m, e := p.t.Most(0, end40); m != 2*end40 || e != api.OK {
		t.Errorf("Most = %d, %v", m, e)
	}
	p.puts(t, 2, span(-5, 5), 1000, api.OK)
	for _, now := range []int64{0, 999, 3401, end40} {
		if m, e := p.t.Most(2, now); m != 0 || e != api.ErrNone {
			t.Errorf("Most(2, %d) = %d, %v", now, m, e)
		}
	}
}

// P24.2: in order, the own one in its place; of which nothing is told, it has none.
func TestOffsets(t *testing.T) {
	a, b, c := span(-1, 1), span(2, 3), span(-9, -4)
	for i, want := range [][]api.Ival{{{}, a, b, c}, {a, {}, b, c}, {a, b, {}, c}, {a, b, c, {}}} {
		p := newTwin(t, wide(), i)
		others := slices.DeleteFunc([]int{0, 1, 2, 3}, func(n int) bool { return n == i })
		for _, k := range []int{2, 0, 1} {
			p.puts(t, others[k], []api.Ival{a, b, c}[k], 700, api.OK)
		}
		if got := p.t.Offsets(700); !slices.Equal(got, want) {
			t.Errorf("of node %d: %v, want %v", i, got, want)
		}
	}
	p := newTwin(t, wide(), 2)
	p.puts(t, 3, c, 700, api.OK)
	p.puts(t, 0, a, 800, api.OK)
	for _, x := range []struct {
		now  int64
		want []api.Ival
	}{
		{699, []api.Ival{{}}},
		{700, []api.Ival{{}, c}},
		{800, []api.Ival{a, {}, span(-15, 2)}},
		{700 + 3200, []api.Ival{span(-192, 192), {}, span(-9-197, -4+197)}},
		{700 + 3201, []api.Ival{span(-192, 192), {}}},
		{800 + 3201, []api.Ival{{}}},
	} {
		if got := p.t.Offsets(x.now); !slices.Equal(got, x.want) {
			t.Errorf("Offsets(%d) = %v, want %v", x.now, got, x.want)
		}
	}
}

// P24.1: behind Clear nothing is known, and no time is old; it may be cleared again and again.
func TestClear(t *testing.T) {
	for _, c := range sizes() {
		p := newTwin(t, c, 0)
		for turn := range 3 {
			now := int64(90000 - 10000*turn)
			for from := range c.N {
				p.put(t, from, span(int64(turn), 50), now)
			}
			p.tells(t, now)
			for range turn + 1 {
				p.clear()
			}
			for _, at := range []int64{0, now - 1, now, now + 1, now + keep(c), end40} {
				p.tells(t, at)
				if len(p.t.Fresh(at)) != 0 || p.t.Near(at) != 1 {
					t.Fatalf("of %+v at %d: %v", c, at, p.t.Fresh(at))
				}
			}
			for from := range c.N {
				p.put(t, from, span(1000, 1001), 5)
			}
			if c.N > 1 {
				p.holds(t, 1, 5, span(1000, 1001))
			}
			p.tells(t, 5)
			p.clear()
		}
	}
}

// P24.3, P1: a nil table, and one that no call made, again and again.
func TestUnmade(t *testing.T) {
	refused, _ := New(usual(), 3)
	for k, d := range []*Table{nil, {}, new(Table), refused} {
		for range 2 {
			for _, now := range append(noTimes(), 0, 1, 1000, end40) {
				for _, from := range append(noOthers(usual(), 1), 0, 1, 2) {
					for _, off := range append(noIvals(), span(-1, 1)) {
						if e := d.Put(from, off, now); e != api.ErrZero {
							t.Fatalf("%d: Put(%d, %v, %d) = %v", k, from, off, now, e)
						}
					}
					if x, e := d.At(from, now); x != (api.Ival{}) || e != api.ErrZero {
						t.Fatalf("%d: At(%d, %d) = %v, %v", k, from, now, x, e)
					}
					if m, e := d.Most(from, now); m != 0 || e != api.ErrZero {
						t.Fatalf("%d: Most(%d, %d) = %d, %v", k, from, now, m, e)
					}
				}
				if fresh, near, offs := d.Fresh(now), d.Near(now), d.Offsets(now); len(fresh) != 0 || near != 0 || len(offs) != 0 {
					t.Fatalf("%d: at %d: %v, %d, %v", k, now, fresh, near, offs)
				}
			}
			d.Clear()
		}
		if d != nil && !reflect.DeepEqual(*d, Table{}) {
			t.Errorf("%d: it has become %+v", k, *d)
		}
	}
}

// P4: what is told is new memory.
func TestNewMemory(t *testing.T) {
	p := newTwin(t, wide(), 1)
	for _, from := range []int{0, 2, 3} {
		p.puts(t, from, span(-5, int64(from)), 100, api.OK)
	}
	fresh, offs := p.t.Fresh(100), p.t.Offsets(100)
	wasFresh, wasOffs := slices.Clone(fresh), slices.Clone(offs)
	again, more := p.t.Fresh(100), p.t.Offsets(100)
	for k := range again[:cap(again)] {
		again[:cap(again)][k] = -1
	}
	for k := range more[:cap(more)] {
		more[:cap(more)][k] = span(7, -7)
	}
	if !slices.Equal(fresh, wasFresh) || !slices.Equal(offs, wasOffs) {
		t.Errorf("%v, %v have become %v, %v", wasFresh, wasOffs, fresh, offs)
	}
	p.tells(t, 100)
	p.puts(t, 0, span(-1, 0), 200, api.OK)
	p.clear()
	if !slices.Equal(fresh, wasFresh) || !slices.Equal(offs, wasOffs) {
		t.Errorf("%v, %v have become %v, %v", wasFresh, wasOffs, fresh, offs)
	}
}

// P5: tables side by side go their own ways; to be asked changes nothing.
func TestSideBySide(t *testing.T) {
	one, two := newTwin(t, usual(), 0), newTwin(t, usual(), 0)
	for k := range int64(3) {
		one.puts(t, 1, span(-5, 5+k), 1000+k, api.OK)
		for range 3 {
			one.tells(t, 1000+k)
			two.tells(t, 1000+k)
			one.tells(t, 9000)
		}
		if k < 2 {
			two.none(t, 1, 1000+k, api.ErrNone)
		}
		two.puts(t, 2, span(-5, 5), 50, api.OK)
		one.none(t, 2, 50, api.ErrNone)
	}
	one.clear()
	two.holds(t, 2, 50, span(-5, 5))
}

// What is kept is one interval of each other node at the most, however often they are put.
func TestKeptIsFew(t *testing.T) {
	p := newTwin(t, usual(), 0)
	for k := range int64(3000) {
		p.puts(t, 1+int(k%2), span(-k, k), 10*k, api.OK)
		if len(p.t.known) > 2 {
			t.Fatalf("%d are kept", len(p.t.known))
		}
	}
	p.clear()
	if len(p.t.known) != 0 {
		t.Fatalf("%d are kept behind Clear", len(p.t.known))
	}
}

// moving is a clock that goes on by beats.
type moving struct {
	now  int64
	beat func() int64 // by how much it goes on
}

// goes lets clocks go on by n beats.
func goes(n int, all []*moving) {
	for range n {
		for _, m := range all {
			m.now += m.beat()
		}
	}
}

// about is an interval that holds n.
func about(random *rand.Rand, n int64, wide int64) api.Ival {
	return span(n-random.Int63n(wide)*random.Int63n(2), n+random.Int63n(wide)*random.Int63n(2))
}

// counts is how much of each was met.
type counts struct{ told, atLo, atHi, gone int }

// isSo checks that all that a table tells is so; the first clock is the own one.
func isSo(t *testing.T, p twin, clocks []*moving, met *counts) {
	t.Helper()
	now := clocks[0].now
	near := 1
	offs := p.t.Offsets(now)
	if offs[0] != (api.Ival{}) {
		t.Fatalf("Offsets(%d) = %v", now, offs)
	}
	for j := 1; j < p.w.c.N; j++ {
		x, e := p.at(t, j, now)
		if e != api.OK {
			met.gone++
			continue
		}
		offs = offs[1:]
		off := clocks[j].now - now
		if !ival.Holds(x, off) || offs[0] != x {
			t.Fatalf("of %+v, at %d: %d of node %d is not in %v of %v", p.w.c, now, off, j, x, offs)
		}
		if m, e := p.t.Most(j, now); e != api.OK || m < clocks[j].now {
			t.Fatalf("of %+v: Most(%d, %d) = %d, %v of %d", p.w.c, j, now, m, e, clocks[j].now)
		}
		if off <= int64(p.w.c.E) && off >= -int64(p.w.c.E) {
			near++
		}
		met.told++
		if x.Lo == off {
			met.atLo++
		}
		if x.Hi == off {
			met.atHi++
		}
	}
	if n := p.t.Near(now); n > near {
		t.Fatalf("of %+v: Near(%d) = %d, but %d are", p.w.c, now, n, near)
	}
}

// soon lets clocks go on for some rounds, puts what is so, and looks whether what is told is.
func soon(t *testing.T, random *rand.Rand, c api.Config, clocks []*moving, met *counts) {
	t.Helper()
	p := newTwin(t, c, 0)
	wide := int64(1 + random.Intn(1+random.Intn(4*c.E)))
	for range 30 {
		goes(random.Intn(int(keep(c))/150), clocks)
		isSo(t, p, clocks, met)
		for j := 1; j < c.N; j++ {
			if random.Intn(3) == 0 {
				p.puts(t, j, about(random, clocks[j].now-clocks[0].now, wide), clocks[0].now, api.OK)
			}
		}
		isSo(t, p, clocks, met)
	}
}

// P24.4: clocks of any drift, of which what is put is so: what is told is so.
func TestIsSo(t *testing.T) {
	random := rand.New(rand.NewSource(24))
	for _, c := range several() {
		d := int64(c.Rho + c.Slew)
		beats := []func() int64{
			func() int64 { return 100 },
			func() int64 { return 100 + d },
			func() int64 { return 100 - d },
			func() int64 { return 100 + random.Int63n(2*d+1) - d },
			func() int64 { return 100 + d*(2*random.Int63n(2)-1) },
		}
		var met counts
		for turn := range 30 {
			clocks := make([]*moving, c.N)
			for j := range clocks {
				clocks[j] = &moving{random.Int63n(1 << 20), beats[random.Intn(5)]}
			}
			if turn%3 == 0 {
				clocks[0].beat = beats[2]
			}
			soon(t, random, c, clocks, &met)
		}
		if met.told < 500 || met.atLo < 100 || met.atHi < 100 || met.gone < 100 {
			t.Errorf("of %+v: %+v", c, met)
		}
	}
}

// P24.4: clocks of package osc, that drift by Rho and are corrected by Slew.
func TestIsSoOsc(t *testing.T) {
	random := rand.New(rand.NewSource(25))
	for _, c := range several() {
		var met counts
		for turn := range 10 {
			clocks := make([]*moving, c.N)
			for j := range clocks {
				k, _ := osc.New(c.Slew)
				k.Set(random.Int63n(1 << 20))
				k.Adjust(int64(1-2*((turn+j)%2)) * 1000000)
				drift := int64(c.Rho) * int64(random.Intn(3)-1)
				clocks[j] = &moving{k.Now(), func() int64 {
					was := k.Now()
					k.Step(100 + drift)
					return k.Now() - was
				}}
			}
			soon(t, random, c, clocks, &met)
		}
		if met.told < 200 || met.gone < 50 {
			t.Errorf("of %+v: %+v", c, met)
		}
	}
}

// P24.1, P24.2: numbers of the layers below are the words' own.
func TestLayersBelow(t *testing.T) {
	for _, c := range sizes() {
		if sched.Keep(c) != keep(c) {
			t.Errorf("Keep of %+v: %d", c, sched.Keep(c))
		}
		for _, a := range []int64{0, 1, 2, 99, 100, 101, 12345, keep(c)} {
			x, e := ival.Grow(span(-5, 7), a, c.Rho+c.Slew)
			if x != span(-5-room(c, a), 7+room(c, a)) || e != api.OK {
				t.Errorf("Grow by %d of %+v: %v, %v", a, c, x, e)
			}
		}
	}
}

// aNumber is one near 0, near an end, or of any size.
func aNumber(random *rand.Rand) int64 {
	n := random.Int63n(1200) - 600
	switch random.Intn(12) {
	case 0:
		return end40 + n
	case 1:
		return -end40 + n
	case 2:
		return random.Int63()>>random.Intn(63) - random.Int63()>>random.Intn(63)
	default:
		return n
	}
}

// anIval is one that is right, or two numbers.
func anIval(random *rand.Rand) api.Ival {
	a, b := aNumber(random), aNumber(random)
	if random.Intn(8) > 0 {
		a, b = min(a, b), max(a, b)
	}
	return span(a, b)
}

// P24.1, P24.2: acts in turn, drawn by chance, held against the chapter's words behind each.
func TestActsInTurn(t *testing.T) {
	random := rand.New(rand.NewSource(81))
	met := map[api.Errno]int{}
	for turn := range 300 {
		c := sizes()[turn%len(sizes())]
		p := newTwin(t, c, random.Intn(c.N))
		now := []int64{0, random.Int63n(1 << 30), end40 - 20*keep(c)}[random.Intn(3)]
		for range 150 {
			switch random.Intn(30) {
			case 0:
				p.clear()
			case 1:
				now += keep(c) - 1 + random.Int63n(3)
			case 2:
				now -= random.Int63n(keep(c))
			case 3:
				p.tells(t, aNumber(random))
			default:
				now += random.Int63n(1 + keep(c)/10)
			}
			met[p.put(t, random.Intn(c.N+2)-1, anIval(random), now+random.Int63n(20)-10)]++
			p.tells(t, now)
			p.tells(t, now+random.Int63n(2*keep(c)))
		}
	}
	for _, e := range []api.Errno{api.OK, api.ErrArg, api.ErrOld} {
		if met[e] < 1000 {
			t.Errorf("%v was met %d times: %v", e, met[e], met)
		}
	}
}

// P1, P6: the greatest and the least numbers, and those about the limits, in each place of each call.
func TestWildNumbers(t *testing.T) {
	wild := []int64{math.MinInt64, math.MinInt64 + 1, math.MinInt32, -end40 - 1, -end40, -end40 + 1, -1, 0, 1, 2, 2400, 2401, end40 - 1, end40, end40 + 1, math.MaxInt32, math.MaxInt64 - 1, math.MaxInt64}
	for _, i := range wild {
		d, e := New(usual(), int(i))
		if is := i >= 0 && i < 3; (d != nil) != is || is != (e == api.OK) || !is && e != api.ErrArg {
			t.Fatalf("New(%d) = %v, %v", i, d, e)
		}
	}
	p := newTwin(t, usual(), 1)
	for _, lo := range wild {
		for _, hi := range wild {
			for _, now := range wild {
				p.put(t, 0, span(lo, hi), now)
				p.put(t, int(hi), span(lo, hi), now)
			}
			p.tells(t, lo)
			p.at(t, int(lo), hi)
		}
		if lo == 0 || lo == end40 {
			p.clear()
		}
	}
}

// P24.1 to P24.3, P1: any numbers that a fuzzer wants, as they are, and brought to where a table is.
func FuzzAll(f *testing.F) {
	f.Add(int64(1), 0, 1, 0, int64(-50), int64(60), int64(1000), int64(1200))
	f.Add(int64(2), 2, 7, 3, int64(-end40), int64(end40), int64(0), int64(end40))
	f.Add(int64(3), 5, -1, 9, int64(1), int64(0), int64(-1), int64(end40+1))
	f.Add(int64(4), 9, math.MinInt, math.MaxInt, int64(math.MinInt64), int64(math.MaxInt64), int64(math.MaxInt64), int64(math.MinInt64))
	f.Fuzz(func(t *testing.T, seed int64, size int, i int, from int, lo int64, hi int64, when int64, now int64) {
		configs := sizes()
		c := configs[int(uint(size)%uint(len(configs)))]
		d, e := New(c, i)
		if is := i >= 0 && i < c.N; (d != nil) != is || is != (e == api.OK) || !is && e != api.ErrArg {
			t.Fatalf("New(%+v, %d) = %v, %v", c, i, d, e)
		}
		p := newTwin(t, c, int(uint(i)%uint(c.N)))
		random := rand.New(rand.NewSource(seed))
		for _, node := range []int{from, int(uint(from) % uint(c.N)), random.Intn(c.N)} {
			p.put(t, node, span(lo, hi), when)
			p.tells(t, now)
			p.put(t, node, span(min(lo, hi), max(lo, hi)), now)
			p.put(t, node, span(hi%end40-5, hi%end40+5), when%end40)
			p.tells(t, when)
			p.put(t, node, span(lo%1000-1000, 1000+hi%1000), when%end40+now%keep(c))
			p.tells(t, when%end40+now%keep(c))
			p.tells(t, when%end40+keep(c))
			p.at(t, node, now)
		}
		p.clear()
		p.put(t, from, anIval(random), when)
		p.tells(t, when)
	})
}
