package disclose

import (
	"math"
	"testing"

	"carillon/api"
	"carillon/sched"
)

// end40 and rounds20 are the limits as the document writes them.
const (
	end40    = 1 << 40
	rounds20 = 1 << 20
)

// usual is a config that is right, with every number well within its bounds.
func usual() api.Config {
	return api.Config{N: 5, F: 1, Slot: 400, Delay: 2, Keys: 32, E: 300, Window: 500, Rho: 1, Slew: 2, Cap: 8}
}

// sizes are configs that are right: the least, the greatest, some between, with every Delay, and chains that are short and long.
func sizes() []api.Config {
	all := []api.Config{
		usual(),
		{N: 1, F: 0, Slot: 300, Delay: 1, Keys: 5, E: 1, Window: 100, Rho: 0, Slew: 0, Cap: 1},
		{N: 1, F: 0, Slot: 10000, Delay: 4, Keys: 256, E: 40000, Window: 40000, Rho: 5, Slew: 5, Cap: 64},
		{N: 8, F: 2, Slot: 10000, Delay: 4, Keys: 256, E: 40000, Window: 40000, Rho: 5, Slew: 5, Cap: 64},
		{N: 8, F: 0, Slot: 300, Delay: 4, Keys: 8, E: 1, Window: 100, Rho: 0, Slew: 0, Cap: 1},
	}
	for delay := 1; delay <= 4; delay++ {
		all = append(all,
			api.Config{N: 2 * delay, F: delay / 2, Slot: 300 + 97*delay, Delay: delay, Keys: delay + 4, E: 150, Window: 100 + 101*delay, Rho: delay, Slew: 5 - delay, Cap: 8 * delay},
			api.Config{N: 9 - 2*delay, Slot: 3000 - 601*delay, Delay: delay, Keys: 20 + 3*delay, E: 77, Window: 300, Cap: 8})
	}
	return all
}

// isRight and isNumber are what P17.1 looks at first: a config, and the number of a round.
func isRight(c api.Config) bool {
	return sched.Check(c) == api.OK
}

func isNumber(n int) bool {
	return n >= 0 && n <= 1048575
}

// wordIndex is Index by the chapter's words: of all keys of a chain, the one of that round.
func wordIndex(c api.Config, start int, round int) (int, api.Errno) {
	if !isRight(c) || !isNumber(start) || !isNumber(round) {
		return 0, api.ErrArg
	}
	for i := range c.Keys {
		if start+i+1 == round {
			return i + 1, api.OK
		}
	}
	return 0, api.ErrNone
}

// wordTold is Told by the chapter's words: the keys whose rounds, and Delay, are not behind the round are counted.
func wordTold(c api.Config, start int, round int) (int, api.Errno) {
	if !isRight(c) || !isNumber(start) || !isNumber(round) {
		return 0, api.ErrArg
	}
	if round <= start {
		return 0, api.ErrNone
	}
	told := 0
	for i := range c.Keys {
		if start+i+1+c.Delay <= round {
			told++
		}
	}
	return told, api.OK
}

// wordWhen is When by the chapter's words.
func wordWhen(c api.Config, slot int, start int, i int) (int64, api.Errno) {
	if !isRight(c) || !isNumber(start) || slot < 0 || slot >= c.N || i < 1 || i > c.Keys || start+i+c.Delay >= rounds20 {
		return 0, api.ErrArg
	}
	slots := int64(start+i+c.Delay)*int64(c.N) + int64(slot)
	return slots * int64(c.Slot), api.OK
}

// wordSecret is Secret by the chapter's words, those at its head first.
func wordSecret(c api.Config, slot int, start int, round int, most int64) api.Errno {
	if !isRight(c) || !isNumber(start) || !isNumber(round) || slot < 0 || slot >= c.N {
		return api.ErrArg
	}
	i, e := wordIndex(c, start, round)
	if e != api.OK {
		return e
	}
	told, e := wordWhen(c, slot, start, i)
	switch {
	case most < 0, most > 1099511627776, e != api.OK:
		return api.ErrArg
	case told <= most:
		return api.ErrLate
	}
	return api.OK
}

// wordKnown is Known by the chapter's words, from the greatest index down.
func wordKnown(c api.Config, slot int, start int, now int64) (int, api.Errno) {
	if !isRight(c) || !isNumber(start) || slot < 0 || slot >= c.N || now < 0 || now/int64(c.Slot)/int64(c.N) > 1048575 {
		return 0, api.ErrArg
	}
	for i := c.Keys; i > 0; i-- {
		if told, e := wordWhen(c, slot, start, i); e == api.OK && told <= now {
			return i, api.OK
		}
	}
	return 0, api.OK
}

// wordOver is Over by the chapter's words.
func wordOver(c api.Config, start int, round int) bool {
	return isRight(c) && isNumber(start) && isNumber(round) && round+c.Delay > start+c.Keys
}

// rounds checks what is told of a round: Index, Told and Over.
func rounds(t testing.TB, c api.Config, start int, round int) {
	t.Helper()
	i, e := Index(c, start, round)
	if want, f := wordIndex(c, start, round); i != want || e != f {
		t.Fatalf("Index(%+v, %d, %d) = %d, %v, want %d, %v", c, start, round, i, e, want, f)
	}
	i, e = Told(c, start, round)
	if want, f := wordTold(c, start, round); i != want || e != f {
		t.Fatalf("Told(%+v, %d, %d) = %d, %v, want %d, %v", c, start, round, i, e, want, f)
	}
	if got := Over(c, start, round); got != wordOver(c, start, round) {
		t.Fatalf("Over(%+v, %d, %d) = %t", c, start, round, got)
	}
}

// when checks what When tells.
func when(t testing.TB, c api.Config, slot int, start int, i int) {
	t.Helper()
	got, e := When(c, slot, start, i)
	if want, f := wordWhen(c, slot, start, i); got != want || e != f {
		t.Fatalf("When(%+v, %d, %d, %d) = %d, %v, want %d, %v", c, slot, start, i, got, e, want, f)
	}
}

// secret checks what Secret tells.
func secret(t testing.TB, c api.Config, slot int, start int, round int, most int64) {
	t.Helper()
	if got, want := Secret(c, slot, start, round, most), wordSecret(c, slot, start, round, most); got != want {
		t.Fatalf("Secret(%+v, %d, %d, %d, %d) = %v, want %v", c, slot, start, round, most, got, want)
	}
}

// known checks what Known tells.
func known(t testing.TB, c api.Config, slot int, start int, now int64) {
	t.Helper()
	got, e := Known(c, slot, start, now)
	if want, f := wordKnown(c, slot, start, now); got != want || e != f {
		t.Fatalf("Known(%+v, %d, %d, %d) = %d, %v, want %d, %v", c, slot, start, now, got, e, want, f)
	}
}

// apart checks P17.3 of a key and a time: it is secret or known, never both; and one of them, where a time has a round.
func apart(t testing.TB, c api.Config, slot int, start int, round int, at int64) {
	t.Helper()
	i, e := Index(c, start, round)
	if e != api.OK {
		return
	}
	last, f := Known(c, slot, start, at)
	switch e := Secret(c, slot, start, round, at); e {
	case api.OK:
		if last >= i || f != api.OK {
			t.Fatalf("key %d of %+v at %d (slot %d, start %d) is secret, and known are %d, %v", i, c, at, slot, start, last, f)
		}
	case api.ErrLate:
		if last < i && f == api.OK {
			t.Fatalf("key %d of %+v at %d (slot %d, start %d) is no secret, and known are %d, %v", i, c, at, slot, start, last, f)
		}
	}
}

// P17.1: the chapter's example.
func TestExample(t *testing.T) {
	c := api.Config{N: 3, Slot: 400, Delay: 2, Keys: 16, E: 400, Window: 400, Rho: 1, Slew: 2, Cap: 8}
	if i, e := Index(c, 3, 6); i != 3 || e != api.OK {
		t.Errorf("Index: %d, %v", i, e)
	}
	if i, e := Told(c, 3, 6); i != 1 || e != api.OK {
		t.Errorf("Told: %d, %v", i, e)
	}
}

// P17.1, P17.2: rounds worked out apart.
func TestRoundNumbers(t *testing.T) {
	for _, x := range []struct {
		delay, keys, start, round int
		index                     int
		e                         api.Errno
		told                      int
		f                         api.Errno
		over                      bool
	}{
		{1, 5, 0, 0, 0, api.ErrNone, 0, api.ErrNone, false},
		{1, 5, 0, 1, 1, api.OK, 0, api.OK, false},
		{1, 5, 0, 2, 2, api.OK, 1, api.OK, false},
		{1, 5, 0, 4, 4, api.OK, 3, api.OK, false},
		{1, 5, 0, 5, 5, api.OK, 4, api.OK, true},
		{1, 5, 0, 6, 0, api.ErrNone, 5, api.OK, true},
		{1, 5, 0, 7, 0, api.ErrNone, 5, api.OK, true},
		{4, 8, 100, 99, 0, api.ErrNone, 0, api.ErrNone, false},
		{4, 8, 100, 100, 0, api.ErrNone, 0, api.ErrNone, false},
		{4, 8, 100, 101, 1, api.OK, 0, api.OK, false},
		{4, 8, 100, 104, 4, api.OK, 0, api.OK, false},
		{4, 8, 100, 105, 5, api.OK, 1, api.OK, true},
		{4, 8, 100, 108, 8, api.OK, 4, api.OK, true},
		{4, 8, 100, 109, 0, api.ErrNone, 5, api.OK, true},
		{4, 8, 100, 112, 0, api.ErrNone, 8, api.OK, true},
		{4, 8, 100, 113, 0, api.ErrNone, 8, api.OK, true},
		{3, 256, 1000, 1253, 253, api.OK, 250, api.OK, false},
		{3, 256, 1000, 1254, 254, api.OK, 251, api.OK, true},
		{3, 256, 1000, 1256, 256, api.OK, 253, api.OK, true},
		{3, 256, 1000, 1257, 0, api.ErrNone, 254, api.OK, true},
		{2, 20, 1048575, 1048575, 0, api.ErrNone, 0, api.ErrNone, false},
		{2, 20, 1048574, 1048575, 1, api.OK, 0, api.OK, false},
		{2, 20, 1048555, 1048575, 20, api.OK, 18, api.OK, true},
		{2, 20, 1048554, 1048575, 0, api.ErrNone, 19, api.OK, true},
		{2, 20, 0, 1048575, 0, api.ErrNone, 20, api.OK, true},
		{2, 20, 1048575, 0, 0, api.ErrNone, 0, api.ErrNone, false},
		{2, 20, -1, 0, 0, api.ErrArg, 0, api.ErrArg, false},
		{2, 20, -1, 19, 0, api.ErrArg, 0, api.ErrArg, false},
		{2, 20, 0, -1, 0, api.ErrArg, 0, api.ErrArg, false},
		{2, 20, 1048576, 5, 0, api.ErrArg, 0, api.ErrArg, false},
		{2, 20, 1048570, 1048576, 0, api.ErrArg, 0, api.ErrArg, false},
		{2, 20, 0, 1048576, 0, api.ErrArg, 0, api.ErrArg, false},
	} {
		c := usual()
		c.Delay, c.Keys = x.delay, x.keys
		if i, e := Index(c, x.start, x.round); i != x.index || e != x.e {
			t.Errorf("%+v: Index %d, %v", x, i, e)
		}
		if i, e := Told(c, x.start, x.round); i != x.told || e != x.f {
			t.Errorf("%+v: Told %d, %v", x, i, e)
		}
		if got := Over(c, x.start, x.round); got != x.over {
			t.Errorf("%+v: Over %t", x, got)
		}
	}
}

// P17.1, P17.2: times worked out apart: when a key is told, that it is secret just ahead of it, and known from it on.
func TestTimeNumbers(t *testing.T) {
	for _, x := range []struct {
		n, slot, delay, node, start, i int
		want                           int64
	}{
		{3, 400, 2, 1, 3, 2, 8800},
		{3, 400, 2, 0, 3, 2, 8400},
		{3, 400, 2, 2, 3, 1, 8000},
		{3, 400, 1, 0, 0, 1, 2400},
		{3, 400, 1, 0, 0, 9, 12000},
		{1, 300, 4, 0, 0, 1, 1500},
		{1, 300, 4, 0, 1000, 9, 303900},
		{8, 10000, 3, 7, 12345, 9, 988630000},
		{5, 777, 4, 3, 1048562, 9, 4073716206},
		{8, 10000, 4, 7, 1048562, 9, 83886070000},
		{1, 300, 1, 0, 1048565, 9, 314572500},
	} {
		c := api.Config{N: x.n, Slot: x.slot, Delay: x.delay, Keys: 9, E: 100, Window: 300, Cap: 8}
		if at, e := When(c, x.node, x.start, x.i); at != x.want || e != api.OK {
			t.Errorf("%+v: When %d, %v", x, at, e)
		}
		round := x.start + x.i
		if Secret(c, x.node, x.start, round, x.want-1) != api.OK || Secret(c, x.node, x.start, round, x.want) != api.ErrLate {
			t.Errorf("%+v: Secret", x)
		}
		if i, e := Known(c, x.node, x.start, x.want-1); i != x.i-1 || e != api.OK {
			t.Errorf("%+v: Known ahead of it: %d, %v", x, i, e)
		}
		if i, e := Known(c, x.node, x.start, x.want); i != x.i || e != api.OK {
			t.Errorf("%+v: Known: %d, %v", x, i, e)
		}
	}
}

// someStarts are rounds at which chains begin.
func someStarts() []int {
	return []int{0, 1, 3, 100, 4097, rounds20 / 2}
}

// P17.1, P17.2: all rounds of a few chains, from some ahead of the first to some behind the one that tells the last key.
func TestAllRounds(t *testing.T) {
	for _, c := range sizes() {
		for _, start := range someStarts() {
			for round := start - 12; round <= start+c.Keys+2*c.Delay+12; round++ {
				rounds(t, c, start, round)
			}
			for _, round := range []int{0, rounds20/2 + 9, rounds20 - 2, rounds20 - 1} {
				rounds(t, c, start, round)
			}
		}
	}
}

// P17.1, P17.2, P17.3: all keys of a few chains, of each node: when they are told, that they are secret up to then, known from then on.
func TestAllKeys(t *testing.T) {
	for _, c := range sizes() {
		for _, start := range someStarts() {
			if c.Keys > 100 && start != 100 {
				continue
			}
			for i := 1; i <= c.Keys; i++ {
				for slot := range c.N {
					when(t, c, slot, start, i)
					at, _ := wordWhen(c, slot, start, i)
					for _, most := range []int64{0, at - int64(c.Slot), at - 1, at, at + 1, at + int64(c.Slot), end40} {
						secret(t, c, slot, start, start+i, most)
					}
					for _, now := range []int64{at - 1, at, at + 1} {
						known(t, c, slot, start, now)
						apart(t, c, slot, start, start+i, now)
					}
				}
			}
		}
	}
}

// P17.1: the index of a round, and the key that is told Delay rounds behind it, are one.
func TestToldLater(t *testing.T) {
	for _, c := range sizes() {
		for round := 8; round <= 7+c.Keys; round++ {
			i, e := Index(c, 7, round)
			told, f := Told(c, 7, round+c.Delay)
			at, g := When(c, 0, 7, i)
			cell, h := sched.Place(c, at)
			if i != round-7 || told != i || cell != (api.Cell{Round: round + c.Delay}) || e != api.OK || f != api.OK || g != api.OK || h != api.OK {
				t.Fatalf("%+v: key %d of round %d, told then %d, at %d in %+v", c, i, round, told, at, cell)
			}
		}
	}
}

// P17.2, P17.3: every time of short chains: the keys that are known are counted up as their slots begin, and each key is secret just while it is not among them.
func TestEveryTime(t *testing.T) {
	for delay := 1; delay <= 4; delay++ {
		c := api.Config{N: 2, Slot: 301, Delay: delay, Keys: delay + 4, E: 100, Window: 300, Cap: 8}
		for slot := range c.N {
			const start = 2
			last := 0
			for now := int64(0); now < int64(start+c.Keys+delay+3)*602; now++ {
				if last < c.Keys && now == int64(start+last+1+delay)*602+int64(slot)*301 {
					last++
				}
				if got, e := Known(c, slot, start, now); got != last || e != api.OK {
					t.Fatalf("Known(%+v, %d, %d, %d) = %d, %v, want %d", c, slot, start, now, got, e, last)
				}
				for i := 1; i <= c.Keys; i++ {
					want := api.OK
					if i <= last {
						want = api.ErrLate
					}
					if e := Secret(c, slot, start, start+i, now); e != want {
						t.Fatalf("Secret(%+v, %d, %d, %d, %d) = %v, want %v", c, slot, start, start+i, now, e, want)
					}
				}
			}
			if last != c.Keys {
				t.Fatalf("%d keys were told", last)
			}
		}
	}
}

// P17.1, P6: start and round of -1, 0, MaxRounds - 1 and MaxRounds, and those a key, all keys and Delay away from them, each with each.
func TestRoundEdges(t *testing.T) {
	for _, c := range sizes() {
		var all []int
		for _, from := range []int{0, rounds20 - 1, rounds20} {
			for _, n := range []int{0, 1, c.Delay, c.Keys - c.Delay, c.Keys, c.Keys + c.Delay} {
				all = append(all, from+n-1, from+n, from+n+1, from-n-1, from-n, from-n+1)
			}
		}
		for _, start := range all {
			for _, round := range all {
				rounds(t, c, start, round)
				secret(t, c, 0, start, round, 0)
				secret(t, c, 0, start, round, end40)
				secret(t, c, c.N, start, round, -1)
			}
			for _, i := range []int{0, 1, c.Keys, c.Keys + 1} {
				when(t, c, 0, start, i)
				when(t, c, c.N-1, start, i)
			}
			for _, now := range []int64{-1, 0, 1000000, end40} {
				known(t, c, 0, start, now)
			}
		}
	}
}

// P17.1, P17.2, P6: slots of -1, 0, N - 1 and N, and the ends of the type; i of 0, 1, Keys and Keys + 1.
func TestSlotEdges(t *testing.T) {
	for _, c := range sizes() {
		for _, slot := range []int{-1, 0, c.N - 1, c.N, c.N + 1, 8, -c.N, 1 << 32, 1<<32 + 1, math.MinInt32, math.MaxInt32, math.MinInt, math.MaxInt} {
			for _, i := range []int{-1, 0, 1, 2, c.Keys - 1, c.Keys, c.Keys + 1, 256, 257, -c.Keys, -c.Delay, 1<<32 + 1, math.MinInt, math.MinInt + 1, math.MaxInt - 1, math.MaxInt} {
				when(t, c, slot, 9, i)
			}
			for _, at := range []int64{-1, 0, 1, 50000, 1000000, end40 - 1, end40, end40 + 1} {
				for _, round := range []int{0, 8, 9, 10, 9 + c.Keys, 10 + c.Keys, rounds20 - 1} {
					secret(t, c, slot, 9, round, at)
				}
				known(t, c, slot, 9, at)
			}
		}
	}
}

// P17.1, P17.2, P17.3: starts so late that the round in which a key is told is MaxRounds or more: there is no When of it, so it is neither secret nor known.
func TestLateStarts(t *testing.T) {
	for _, c := range sizes() {
		over := rounds20 * sched.Round(c)
		for back := 1; back <= c.Keys+c.Delay+3; back++ {
			if c.Keys > 100 && back%16 > 6 {
				continue
			}
			start := rounds20 - back
			// The first key that has no round to be told in, and those about it.
			none := back - c.Delay
			for _, i := range []int{1, 2, none - 1, none, none + 1, c.Keys - 1, c.Keys} {
				for _, slot := range []int{0, c.N - 1} {
					when(t, c, slot, start, i)
					at, e := wordWhen(c, slot, start, i)
					if e != api.OK {
						at = over
					}
					for _, most := range []int64{0, at - 1, at, over, end40, end40 + 1} {
						secret(t, c, slot, start, start+i, most)
						apart(t, c, slot, start, start+i, most)
					}
					known(t, c, slot, start, at-1)
					known(t, c, slot, start, at)
				}
			}
			for _, now := range []int64{over - int64(c.N*c.Slot), over - int64(c.Slot) - 1, over - int64(c.Slot), over - 1, over} {
				known(t, c, 0, start, now)
				known(t, c, c.N-1, start, now)
			}
		}
	}
}

// P17.1, P17.2: late starts, worked out apart: the last key that can be told, and the first that can't.
func TestLastRound(t *testing.T) {
	c := api.Config{N: 2, Slot: 500, Delay: 3, Keys: 10, E: 100, Window: 300, Cap: 8}
	const start = 1048576 - 8
	if at, e := When(c, 1, start, 4); at != 1048575500 || e != api.OK {
		t.Errorf("When of the last that is told: %d, %v", at, e)
	}
	if at, e := When(c, 1, start, 5); at != 0 || e != api.ErrArg {
		t.Errorf("When of one that is not: %d, %v", at, e)
	}
	if i, e := Index(c, start, start+5); i != 5 || e != api.OK {
		t.Errorf("Index: %d, %v", i, e)
	}
	for _, x := range []struct {
		round int
		most  int64
		want  api.Errno
	}{
		{start + 4, 1048575499, api.OK}, {start + 4, 1048575500, api.ErrLate}, {start + 4, end40, api.ErrLate},
		{start + 5, 0, api.ErrArg}, {start + 5, 1048575500, api.ErrArg}, {start + 5, end40, api.ErrArg}, {start + 7, 0, api.ErrArg}, {start + 8, 0, api.ErrArg},
	} {
		if e := Secret(c, 1, start, x.round, x.most); e != x.want {
			t.Errorf("%+v: Secret %v", x, e)
		}
	}
	for _, x := range []struct {
		now  int64
		want int
	}{{1048572499, 0}, {1048572500, 1}, {1048575499, 3}, {1048575500, 4}, {1048575999, 4}} {
		if i, e := Known(c, 1, start, x.now); i != x.want || e != api.OK {
			t.Errorf("%+v: Known %d, %v", x, i, e)
		}
	}
	if i, e := Known(c, 1, start, 1048576000); i != 0 || e != api.ErrArg {
		t.Errorf("Known of a time without a round: %d, %v", i, e)
	}
}

// P17.1, P2: a slot that is no node is named ahead of a round that has no key, wherever that round is and whatever most is; at one that is a node there is just no key.
func TestSecretSlotFirst(t *testing.T) {
	for _, c := range sizes() {
		for _, start := range []int{0, 3, 4097, rounds20 - 2, rounds20 - 1} {
			for _, round := range []int{0, start - 1, start, start + c.Keys + 1, start + c.Keys + c.Delay + 1, rounds20 - 1} {
				if round < 0 || round >= rounds20 || round > start && round <= start+c.Keys {
					continue
				}
				for _, most := range []int64{math.MinInt64, -1, 0, 8800, end40, end40 + 1, math.MaxInt64} {
					for _, slot := range []int{math.MinInt, math.MinInt32, -c.N, -1, c.N, c.N + 1, 1 << 32, math.MaxInt} {
						if e := Secret(c, slot, start, round, most); e != api.ErrArg {
							t.Fatalf("Secret(%+v, %d, %d, %d, %d) = %v", c, slot, start, round, most, e)
						}
					}
					for slot := range c.N {
						if e := Secret(c, slot, start, round, most); e != api.ErrNone {
							t.Fatalf("Secret(%+v, %d, %d, %d, %d) = %v", c, slot, start, round, most, e)
						}
					}
				}
			}
		}
	}
}

// P17.1, P17.2, P2: where two errors would come, the one that is named first: the chapter's own of config, rounds and slot, then Secret's: Index's, most's, When's, that it is late.
func TestSecretOrder(t *testing.T) {
	c := api.Config{N: 3, Slot: 400, Delay: 2, Keys: 16, E: 400, Window: 400, Rho: 1, Slew: 2, Cap: 8}
	wrong := c
	wrong.Cap = 65
	const late = rounds20 - 3
	for _, x := range []struct {
		name              string
		c                 api.Config
		slot, start       int
		round             int
		most              int64
		want, theOtherOne api.Errno
	}{
		{"config ahead of none", wrong, 1, 3, 3, 0, api.ErrArg, api.ErrNone},
		{"config ahead of late", wrong, 1, 3, 5, end40, api.ErrArg, api.ErrLate},
		{"start ahead of none", c, 1, -1, 40, 0, api.ErrArg, api.ErrNone},
		{"start of MaxRounds ahead of none", c, 1, rounds20, 40, 0, api.ErrArg, api.ErrNone},
		{"round ahead of none", c, 1, 3, -1, 0, api.ErrArg, api.ErrNone},
		{"round of MaxRounds ahead of none", c, 1, 3, rounds20, 0, api.ErrArg, api.ErrNone},
		{"none ahead of most below 0", c, 1, 3, 3, -1, api.ErrNone, api.ErrArg},
		{"none ahead of most above MaxTime", c, 1, 3, 20, end40 + 1, api.ErrNone, api.ErrArg},
		{"slot ahead of none", c, 3, 3, 3, 0, api.ErrArg, api.ErrNone},
		{"slot below 0 ahead of none", c, -1, 3, 20, 0, api.ErrArg, api.ErrNone},
		{"slot ahead of none and most", c, 3, 3, 2, -1, api.ErrArg, api.ErrNone},
		{"none ahead of late", c, 1, 3, 20, end40, api.ErrNone, api.ErrLate},
		{"none ahead of no When", c, 1, late, late, 0, api.ErrNone, api.ErrArg},
		{"most ahead of late", c, 1, 3, 5, end40 + 1, api.ErrArg, api.ErrLate},
		{"the greatest most ahead of late", c, 1, 3, 5, math.MaxInt64, api.ErrArg, api.ErrLate},
		{"slot ahead of late", c, 3, 3, 5, end40, api.ErrArg, api.ErrLate},
		{"slot below 0 ahead of late", c, -1, 3, 5, end40, api.ErrArg, api.ErrLate},
		{"no When ahead of late", c, 1, late, late + 1, end40, api.ErrArg, api.ErrLate},
	} {
		if e := Secret(x.c, x.slot, x.start, x.round, x.most); e != x.want {
			t.Errorf("%s: %v, want %v, not %v", x.name, e, x.want, x.theOtherOne)
		}
	}
}

// P17.2, P6: most of -1, 0, MaxTime and MaxTime + 1, just below, at and above When.
func TestMost(t *testing.T) {
	for _, c := range sizes() {
		for slot := range c.N {
			at := int64(9+5+c.Delay)*int64(c.N*c.Slot) + int64(slot*c.Slot)
			for _, x := range []struct {
				most int64
				want api.Errno
			}{
				{math.MinInt64, api.ErrArg}, {-end40, api.ErrArg}, {-1, api.ErrArg}, {0, api.OK}, {1, api.OK}, {at - 1, api.OK}, {at, api.ErrLate}, {at + 1, api.ErrLate},
				{rounds20 * sched.Round(c), api.ErrLate}, {end40 - 1, api.ErrLate}, {end40, api.ErrLate}, {end40 + 1, api.ErrArg}, {1 << 62, api.ErrArg}, {math.MaxInt64, api.ErrArg},
			} {
				if e := Secret(c, slot, 9, 14, x.most); e != x.want {
					t.Errorf("Secret(%+v, %d, 9, 14, %d) = %v, want %v", c, slot, x.most, e, x.want)
				}
			}
		}
	}
}

// P17.2, P6: now of -1, 0, MaxTime and MaxTime + 1, one below and just at the When of the first and of the last key, far behind it, and at the end of all rounds.
func TestNow(t *testing.T) {
	for _, c := range sizes() {
		over := rounds20 * int64(c.N) * int64(c.Slot)
		for slot := range c.N {
			first := int64(9+1+c.Delay)*int64(c.N*c.Slot) + int64(slot*c.Slot)
			last := first + int64(c.Keys-1)*int64(c.N*c.Slot)
			for _, x := range []struct {
				now  int64
				want int
				e    api.Errno
			}{
				{math.MinInt64, 0, api.ErrArg}, {-end40, 0, api.ErrArg}, {-1, 0, api.ErrArg}, {0, 0, api.OK}, {first - 1, 0, api.OK}, {first, 1, api.OK}, {first + 1, 1, api.OK},
				{last - 1, c.Keys - 1, api.OK}, {last, c.Keys, api.OK}, {last + 1, c.Keys, api.OK}, {2 * last, c.Keys, api.OK}, {over - 1, c.Keys, api.OK},
				{over, 0, api.ErrArg}, {over + 1, 0, api.ErrArg}, {end40 - 1, 0, api.ErrArg}, {end40, 0, api.ErrArg}, {end40 + 1, 0, api.ErrArg}, {1 << 62, 0, api.ErrArg}, {math.MaxInt64, 0, api.ErrArg},
			} {
				if i, e := Known(c, slot, 9, x.now); i != x.want || e != x.e {
					t.Errorf("Known(%+v, %d, 9, %d) = %d, %v, want %d, %v", c, slot, x.now, i, e, x.want, x.e)
				}
			}
		}
	}
}

// refused checks that every call refuses a config, whatever else it is given.
func refused(t testing.TB, c api.Config) {
	t.Helper()
	if isRight(c) {
		t.Fatalf("%+v is right", c)
	}
	all := []int{math.MinInt, -1, 0, 1, 3, 5, c.Keys, c.N, rounds20 - 1, rounds20, math.MaxInt}
	for _, start := range all {
		for _, n := range all {
			rounds(t, c, start, n)
			when(t, c, 0, start, n)
			when(t, c, n, start, 1)
			for _, at := range []int64{-1, 0, 1000000, end40} {
				secret(t, c, 0, start, n, at)
				secret(t, c, n, start, start+1, at)
				known(t, c, n, start, at)
			}
		}
	}
}

// P17.1, P17.2, P1: a config that is not right in each call: of zeros, with one field that is wrong, with all of them at the ends.
func TestWrongConfigs(t *testing.T) {
	refused(t, api.Config{})
	for _, n := range []int{math.MinInt, math.MinInt + 1, -1, 1, 400, rounds20, math.MaxInt - 1, math.MaxInt} {
		refused(t, api.Config{N: n, F: n, Slot: n, Delay: n, Keys: n, E: n, Window: n, Rho: n, Slew: n, Cap: n})
	}
	for _, n := range []int{math.MinInt, math.MinInt32, -1, 10001, math.MaxInt32, 1 << 32, math.MaxInt - 1, math.MaxInt} {
		for field := range 10 {
			c := usual()
			*[]*int{&c.N, &c.F, &c.Slot, &c.Delay, &c.Keys, &c.E, &c.Window, &c.Rho, &c.Slew, &c.Cap}[field] = n
			refused(t, c)
		}
	}
	for _, wrong := range []func(c *api.Config){
		func(c *api.Config) { c.N = 0 }, func(c *api.Config) { c.N = 9 }, func(c *api.Config) { c.F = 2 }, func(c *api.Config) { c.Slot = 299 }, func(c *api.Config) { c.Delay = 0 },
		func(c *api.Config) { c.Delay = 5 }, func(c *api.Config) { c.Keys = 5 }, func(c *api.Config) { c.Keys = 257 }, func(c *api.Config) { c.E = 0 }, func(c *api.Config) { c.E = 1601 },
		func(c *api.Config) { c.Window = 99 }, func(c *api.Config) { c.Rho = 6 }, func(c *api.Config) { c.Slew = 6 }, func(c *api.Config) { c.Cap = 0 }, func(c *api.Config) { c.Cap = 65 },
	} {
		c := usual()
		wrong(&c)
		refused(t, c)
	}
}

// P1, P6: the greatest and the least numbers of each type, and those whose sums and differences wrap to ordinary ones, each with each.
func TestFarOut(t *testing.T) {
	traps := []int{math.MinInt, math.MinInt + 1, math.MinInt + 3, math.MinInt32, -1, 0, 1, 3, 7, rounds20 - 1, rounds20, math.MaxInt32, 1 << 32, 1<<32 + 3, 1 << 62, math.MaxInt - 3, math.MaxInt - 1, math.MaxInt}
	for _, c := range []api.Config{usual(), sizes()[1], sizes()[3]} {
		for _, a := range traps {
			for _, b := range traps {
				rounds(t, c, a, b)
				for _, d := range traps {
					when(t, c, d, a, b)
					known(t, c, a, b, int64(d))
					secret(t, c, 0, a, b, int64(d))
					secret(t, c, d, a, b, 0)
					secret(t, c, d, 3, a, int64(b))
				}
			}
		}
	}
}

// P17.1, P17.2: what is told of rounds hangs on Delay and Keys alone, what is told of times on N and Slot too, and on no other number of a config.
func TestNotOfOthers(t *testing.T) {
	c := usual()
	other := c
	other.F, other.E, other.Window, other.Rho, other.Slew, other.Cap = 0, 1, 100, 5, 0, 64
	moved := c
	moved.N, moved.Slot = 8, 4321
	for i := 1; i <= c.Keys; i++ {
		at, _ := When(c, 2, 4, i)
		same, _ := When(other, 2, 4, i)
		one, _ := Known(c, 2, 4, at)
		two, _ := Known(other, 2, 4, at)
		if at != same || one != i || two != i || Secret(c, 2, 4, 4+i, at-1) != Secret(other, 2, 4, 4+i, at-1) || Secret(c, 2, 4, 4+i, at) != Secret(other, 2, 4, 4+i, at) {
			t.Errorf("key %d: %d, %d; %d, %d", i, at, same, one, two)
		}
		for _, d := range []api.Config{other, moved} {
			index, _ := Index(d, 4, 4+i)
			told, _ := Told(d, 4, 4+i)
			if index != i || told != max(0, i-2) || Over(d, 4, 4+i) != (i > 30) {
				t.Errorf("key %d of %+v: %d, %d, %t", i, d, index, told, Over(d, 4, 4+i))
			}
		}
	}
}

// P17.3: keys and times all over chains, ahead of them and behind them: those that are secret at a time are just those above what is known then.
func TestSecretNotKnown(t *testing.T) {
	for _, c := range sizes() {
		round := sched.Round(c)
		for _, start := range []int{0, 11, rounds20 - c.Keys - c.Delay - 4} {
			begin := int64(start) * round
			end := begin + int64(c.Keys+c.Delay+3)*round
			for slot := range c.N {
				for at := begin; at < end; at += (end-begin)/97 + 1 {
					last, e := Known(c, slot, start, at)
					for i := 1; i <= c.Keys; i++ {
						if f := Secret(c, slot, start, start+i, at); e != api.OK || (f == api.OK) != (i > last) || (f == api.ErrLate) != (i <= last) {
							t.Fatalf("key %d of %+v (slot %d, start %d) at %d: %v, and known are %d, %v", i, c, slot, start, at, f, last, e)
						}
					}
				}
			}
		}
	}
}

// P5: what is answered hangs on nothing that was asked ahead of it.
func TestAnswersTheSame(t *testing.T) {
	for range 3 {
		for _, c := range sizes() {
			wrong := c
			wrong.N = 9
			for _, d := range []api.Config{c, wrong} {
				for round := -1; round < 12; round++ {
					rounds(t, d, 3, round)
					secret(t, d, 0, 3, round, 5000)
					when(t, d, 0, 3, round)
					known(t, d, 0, 3, int64(round)*1000)
				}
			}
		}
	}
}

// P17.1 to P17.3, P1: any numbers that a fuzzer wants, as they are, and brought to where a chain is.
func FuzzAll(f *testing.F) {
	f.Add(3, 0, 400, 2, 16, 400, 400, 1, 2, 8, 1, 3, 6, int64(8800))
	f.Add(8, 2, 10000, 4, 256, 40000, 40000, 5, 5, 64, 7, rounds20-20, rounds20-1, int64(83886070000))
	f.Add(0, 0, 0, 0, 0, 0, 0, 0, 0, 0, 0, 0, 0, int64(0))
	f.Add(math.MaxInt, math.MinInt, math.MaxInt, math.MaxInt, math.MinInt, math.MaxInt, math.MinInt, math.MaxInt, math.MinInt, math.MaxInt, math.MinInt, math.MaxInt, math.MinInt, int64(math.MinInt64))
	f.Fuzz(func(t *testing.T, n, f, slot, delay, keys, e, window, rho, slew, most, node, start, round int, at int64) {
		all := func(c api.Config, node int, start int, round int, at int64) {
			rounds(t, c, start, round)
			when(t, c, node, start, round)
			secret(t, c, node, start, round, at)
			known(t, c, node, start, at)
			apart(t, c, node, start, round, at)
		}
		c := api.Config{N: n, F: f, Slot: slot, Delay: delay, Keys: keys, E: e, Window: window, Rho: rho, Slew: slew, Cap: most}
		all(c, node, start, round, at)
		pick := func(n int, least int, most int) int {
			return least + int(uint(n)%uint(most-least+1))
		}
		c.N, c.Slot, c.Delay = pick(n, 1, 8), pick(slot, 300, 10000), pick(delay, 1, 4)
		c.F, c.Keys, c.E, c.Window = pick(f, 0, (c.N-1)/3), pick(keys, c.Delay+4, 256), pick(e, 1, 4*c.Slot), pick(window, 100, 4*c.Slot)
		c.Rho, c.Slew, c.Cap = pick(rho, 0, 5), pick(slew, 0, 5), pick(most, 1, 64)
		all(c, node, start, round, at)
		node, start = pick(node, 0, c.N-1), pick(start, 0, rounds20-1)
		i := pick(round, 1, c.Keys)
		when(t, c, node, start, i)
		near := int64(start+i+c.Delay)*sched.Round(c) + at%(2*sched.Round(c))
		for _, when := range []int64{at, at & (end40 - 1), near} {
			all(c, node, start, start+i, when)
		}
	})
}
