package sched

import (
	"math"
	"math/big"
	"testing"

	"carillon/api"
)

// end40 and rounds20 are the limits as the document writes them.
const (
	end40    = 1 << 40
	rounds20 = 1 << 20
)

// usual is a config that is right, with every number well within its bounds.
func usual() api.Config {
	return api.Config{N: 5, F: 1, Slot: 400, Delay: 2, Keys: 32, E: 300, Window: 500, Rho: 1, Slew: 2, Cap: 8}
}

// sizes are configs that are right: the least, the greatest, and some between.
func sizes() []api.Config {
	all := []api.Config{
		usual(),
		{N: 1, F: 0, Slot: 300, Delay: 1, Keys: 5, E: 1, Window: 100, Rho: 0, Slew: 0, Cap: 1},
		{N: 1, F: 0, Slot: 10000, Delay: 4, Keys: 256, E: 40000, Window: 40000, Rho: 5, Slew: 5, Cap: 64},
		{N: 8, F: 2, Slot: 10000, Delay: 4, Keys: 256, E: 40000, Window: 40000, Rho: 5, Slew: 5, Cap: 64},
		{N: 8, F: 0, Slot: 300, Delay: 1, Keys: 5, E: 1, Window: 100, Rho: 0, Slew: 0, Cap: 1},
		{N: 4, F: 1, Slot: 400, Delay: 2, Keys: 16, E: 400, Window: 400, Cap: 8},
	}
	for n := 1; n <= 8; n++ {
		all = append(all, api.Config{N: n, F: (n - 1) / 3, Slot: 300 + 97*n, Delay: 1 + n%4, Keys: 8 + 31*(n-1), E: 150 * n, Window: 100 + 101*n, Rho: n % 6, Slew: (n * 5) % 6, Cap: 8 * n})
	}
	return all
}

func whole[T int | int64](n T) *big.Int {
	return big.NewInt(int64(n))
}

// sum and product are of numbers that have no end.
func sum(l ...*big.Int) *big.Int {
	all := new(big.Int)
	for _, x := range l {
		all.Add(all, x)
	}
	return all
}

func product(l ...*big.Int) *big.Int {
	all := whole(1)
	for _, x := range l {
		all.Mul(all, x)
	}
	return all
}

// spans tells whether n is from lo to hi.
func spans(lo *big.Int, n *big.Int, hi *big.Int) bool {
	return lo.Cmp(n) <= 0 && n.Cmp(hi) <= 0
}

// isRight is the chapter's word of a right config, by numbers that have no end.
func isRight(c api.Config) bool {
	slots := product(whole(4), whole(c.Slot))
	return spans(whole(1), whole(c.N), whole(8)) &&
		c.F >= 0 && product(whole(3), whole(c.F)).Cmp(whole(c.N)) < 0 &&
		spans(whole(300), whole(c.Slot), whole(10000)) &&
		spans(whole(1), whole(c.Delay), whole(4)) &&
		spans(sum(whole(c.Delay), whole(4)), whole(c.Keys), whole(256)) &&
		spans(whole(1), whole(c.E), slots) &&
		spans(whole(100), whole(c.Window), slots) &&
		spans(whole(0), whole(c.Rho), whole(5)) &&
		spans(whole(0), whole(c.Slew), whole(5)) &&
		spans(whole(1), whole(c.Cap), whole(64))
}

// wordQuiet is Quiet of a config that is right: the greatest number that the chapter's quotient is not below, found by trying, and 2 Beats.
func wordQuiet(c api.Config) int64 {
	d := c.Rho + c.Slew
	above := int64(2*c.N*c.Slot+c.Window) * int64(100+d)
	below := int64(0)
	for step := int64(1 << 40); step > 0; step /= 2 {
		if (below+step)*int64(100-d) <= above {
			below += step
		}
	}
	return below + 200
}

// wordPatience is Patience of a config that is right and of one of its nodes; the rounds that Quiet reaches into are counted.
func wordPatience(c api.Config, i int) int {
	into := 0
	for left := wordQuiet(c); left > 0; left -= int64(c.N * c.Slot) {
		into++
	}
	all := c.Delay + 1 + c.Delay + 1 + 8
	for range c.N - 1 - i {
		all += 6 + into
	}
	return all
}

// taken checks that a config is right, and what is told of it alone.
func taken(t testing.TB, c api.Config) {
	t.Helper()
	round := int64(c.N) * int64(c.Slot)
	if e := Check(c); e != api.OK {
		t.Fatalf("Check(%+v) = %v", c, e)
	}
	if Round(c) != round || Keep(c) != 2*round || Quiet(c) != wordQuiet(c) {
		t.Fatalf("of %+v: Round %d, Keep %d, Quiet %d, want Quiet %d", c, Round(c), Keep(c), Quiet(c), wordQuiet(c))
	}
	for i := range c.N {
		if got, want := Patience(c, i), wordPatience(c, i); got != want {
			t.Fatalf("Patience(%+v, %d) = %d, want %d", c, i, got, want)
		}
	}
	for _, i := range []int{-1, -2, -8, c.N, c.N + 1, 256, 1 << 32, math.MinInt32, math.MaxInt32, math.MinInt, math.MinInt + 1, math.MaxInt - 1, math.MaxInt} {
		if got := Patience(c, i); got != 0 {
			t.Fatalf("Patience(%+v, %d) = %d", c, i, got)
		}
	}
}

// refused checks that a config is not right, and that every call answers so, whatever else it is given.
func refused(t testing.TB, c api.Config) {
	t.Helper()
	if e := Check(c); e != api.ErrArg {
		t.Fatalf("Check(%+v) = %v", c, e)
	}
	if Round(c) != 0 || Keep(c) != 0 || Quiet(c) != 0 {
		t.Fatalf("of %+v: Round %d, Keep %d, Quiet %d", c, Round(c), Keep(c), Quiet(c))
	}
	for _, n := range []int{-1, 0, 1, 2, c.N - 1, c.N, rounds20 - 1, rounds20, math.MinInt, math.MaxInt} {
		if got := Patience(c, n); got != 0 {
			t.Fatalf("Patience(%+v, %d) = %d", c, n, got)
		}
		noAt(t, c, 0, n)
		noAt(t, c, n, 0)
		noAt(t, c, n, n)
		noNext(t, c, n, 0)
		noNext(t, c, 0, int64(n))
		noNext(t, c, n, int64(n))
		noPlace(t, c, int64(n))
	}
	for _, at := range []int64{399, 400, end40, end40 + 1, math.MinInt64, math.MaxInt64} {
		noPlace(t, c, at)
		noNext(t, c, 0, at)
	}
}

// held checks that a config is taken or refused, as the chapter's words have it.
func held(t testing.TB, c api.Config) {
	t.Helper()
	if isRight(c) {
		taken(t, c)
	} else {
		refused(t, c)
	}
}

// lies checks that a time has a cell.
func lies(t testing.TB, c api.Config, at int64, want api.Cell) {
	t.Helper()
	if got, e := Place(c, at); got != want || e != api.OK {
		t.Fatalf("Place(%+v, %d) = %+v, %v, want %+v", c, at, got, e, want)
	}
}

func noPlace(t testing.TB, c api.Config, at int64) {
	t.Helper()
	if got, e := Place(c, at); got != (api.Cell{}) || e != api.ErrArg {
		t.Fatalf("Place(%+v, %d) = %+v, %v", c, at, got, e)
	}
}

// begins checks what At and Speak tell.
func begins(t testing.TB, c api.Config, round int, slot int, want int64) {
	t.Helper()
	if got, e := At(c, round, slot); got != want || e != api.OK {
		t.Fatalf("At(%+v, %d, %d) = %d, %v, want %d", c, round, slot, got, e, want)
	}
	if from, to, e := Speak(c, round, slot); from != want || to != want+int64(c.Slot)-1 || e != api.OK {
		t.Fatalf("Speak(%+v, %d, %d) = %d, %d, %v, want from %d on", c, round, slot, from, to, e, want)
	}
}

// noAt checks that At and Speak refuse.
func noAt(t testing.TB, c api.Config, round int, slot int) {
	t.Helper()
	if got, e := At(c, round, slot); got != 0 || e != api.ErrArg {
		t.Fatalf("At(%+v, %d, %d) = %d, %v", c, round, slot, got, e)
	}
	if from, to, e := Speak(c, round, slot); from != 0 || to != 0 || e != api.ErrArg {
		t.Fatalf("Speak(%+v, %d, %d) = %d, %d, %v", c, round, slot, from, to, e)
	}
}

// next checks what Next tells.
func next(t testing.TB, c api.Config, i int, at int64, want int) {
	t.Helper()
	if got, e := Next(c, i, at); got != want || e != api.OK {
		t.Fatalf("Next(%+v, %d, %d) = %d, %v, want %d", c, i, at, got, e, want)
	}
}

func noNext(t testing.TB, c api.Config, i int, at int64) {
	t.Helper()
	if got, e := Next(c, i, at); got != 0 || e != api.ErrArg {
		t.Fatalf("Next(%+v, %d, %d) = %d, %v", c, i, at, got, e)
	}
}

// P16.1: numbers worked out apart.
func TestNumbers(t *testing.T) {
	for _, x := range []struct {
		n, slot, delay, window, rho, slew int
		round, keep, quiet                int64
		patience                          []int
	}{
		{3, 400, 1, 400, 1, 2, 1200, 2400, 3173, []int{30, 21, 12}},
		{4, 400, 2, 400, 0, 0, 1600, 3200, 3800, []int{41, 32, 23, 14}},
		{1, 300, 1, 100, 0, 0, 300, 600, 900, []int{12}},
		{1, 300, 1, 1200, 5, 5, 300, 600, 2400, []int{12}},
		{8, 10000, 4, 40000, 5, 5, 80000, 160000, 244644, []int{88, 78, 68, 58, 48, 38, 28, 18}},
		{8, 10000, 4, 100, 0, 0, 80000, 160000, 160300, []int{81, 72, 63, 54, 45, 36, 27, 18}},
		{5, 777, 3, 1234, 2, 3, 3885, 7770, 10151, []int{52, 43, 34, 25, 16}},
		{2, 300, 1, 300, 5, 0, 600, 1200, 1857, []int{22, 12}},
		{7, 9999, 2, 101, 0, 1, 69993, 139986, 143117, []int{68, 59, 50, 41, 32, 23, 14}},
		// Quiet is one less than three rounds, just three, one more.
		{2, 300, 1, 399, 0, 0, 600, 1200, 1799, []int{21, 12}},
		{2, 300, 1, 400, 0, 0, 600, 1200, 1800, []int{21, 12}},
		{2, 300, 1, 401, 0, 0, 600, 1200, 1801, []int{22, 12}},
	} {
		c := api.Config{N: x.n, Slot: x.slot, Delay: x.delay, Keys: 16, E: 100, Window: x.window, Rho: x.rho, Slew: x.slew, Cap: 8}
		if Check(c) != api.OK || Round(c) != x.round || Keep(c) != x.keep || Quiet(c) != x.quiet {
			t.Errorf("of %+v: %v, Round %d, Keep %d, Quiet %d", c, Check(c), Round(c), Keep(c), Quiet(c))
		}
		for i, want := range x.patience {
			if got := Patience(c, i); got != want {
				t.Errorf("Patience(%+v, %d) = %d, want %d", c, i, got, want)
			}
		}
	}
}

// P16.1: configs of several sizes.
func TestSizes(t *testing.T) {
	for _, c := range sizes() {
		taken(t, c)
	}
}

// P16.1: with every drift, correction and window, so that quotients are even and uneven.
func TestQuiet(t *testing.T) {
	for rho := 0; rho <= 5; rho++ {
		for slew := 0; slew <= 5; slew++ {
			for window := 100; window <= 1200; window++ {
				c := api.Config{N: 2, Slot: 300, Delay: 3, Keys: 9, E: 7, Window: window, Rho: rho, Slew: slew, Cap: 5}
				if Quiet(c) != wordQuiet(c) || Patience(c, 0) != wordPatience(c, 0) {
					t.Fatalf("of %+v: Quiet %d, want %d, Patience %d, want %d", c, Quiet(c), wordQuiet(c), Patience(c, 0), wordPatience(c, 0))
				}
			}
		}
	}
}

// P16.1: what Round, Keep, Quiet and Patience tell hangs on just the numbers that the chapter names.
func TestNotOfOthers(t *testing.T) {
	c := usual()
	other := c
	other.F, other.Keys, other.E, other.Cap = 0, 200, 1, 64
	if Round(c) != Round(other) || Keep(c) != Keep(other) || Quiet(c) != Quiet(other) || Patience(c, 1) != Patience(other, 1) {
		t.Errorf("%d, %d; %d, %d; %d, %d", Round(c), Round(other), Keep(c), Keep(other), Quiet(c), Quiet(other))
	}
}

// fields are a config's, each to be set to a number.
func fields() map[string]func(*api.Config, int) {
	return map[string]func(*api.Config, int){
		"N":      func(c *api.Config, n int) { c.N = n },
		"F":      func(c *api.Config, n int) { c.F = n },
		"Slot":   func(c *api.Config, n int) { c.Slot = n },
		"Delay":  func(c *api.Config, n int) { c.Delay = n },
		"Keys":   func(c *api.Config, n int) { c.Keys = n },
		"E":      func(c *api.Config, n int) { c.E = n },
		"Window": func(c *api.Config, n int) { c.Window = n },
		"Rho":    func(c *api.Config, n int) { c.Rho = n },
		"Slew":   func(c *api.Config, n int) { c.Slew = n },
		"Cap":    func(c *api.Config, n int) { c.Cap = n },
	}
}

// P16.1, P1, P6: each field at both of its bounds, one below and one above them; what hangs on another field, with that one great and small.
func TestBounds(t *testing.T) {
	small := api.Config{N: 1, Slot: 300, Delay: 1, Keys: 8, E: 200, Window: 200, Cap: 8}
	great := api.Config{N: 8, Slot: 10000, Delay: 4, Keys: 100, E: 200, Window: 200, Rho: 5, Slew: 5, Cap: 8}
	set := fields()
	for _, x := range []struct {
		field       string
		from        api.Config
		least, most int
	}{
		{"N", small, 1, 8}, {"N", great, 1, 8}, {"N", usual(), 4, 8},
		{"F", small, 0, 0}, {"F", great, 0, 2}, {"F", usual(), 0, 1},
		{"Slot", small, 300, 10000}, {"Slot", great, 300, 10000}, {"Slot", usual(), 300, 10000},
		{"Delay", small, 1, 4}, {"Delay", great, 1, 4}, {"Delay", usual(), 1, 4},
		{"Keys", small, 5, 256}, {"Keys", great, 8, 256}, {"Keys", usual(), 6, 256},
		{"E", small, 1, 1200}, {"E", great, 1, 40000}, {"E", usual(), 1, 1600},
		{"Window", small, 100, 1200}, {"Window", great, 100, 40000}, {"Window", usual(), 100, 1600},
		{"Rho", small, 0, 5}, {"Rho", great, 0, 5}, {"Rho", usual(), 0, 5},
		{"Slew", small, 0, 5}, {"Slew", great, 0, 5}, {"Slew", usual(), 0, 5},
		{"Cap", small, 1, 64}, {"Cap", great, 1, 64}, {"Cap", usual(), 1, 64},
	} {
		for _, n := range []int{x.least, x.least + 1, (x.least + x.most) / 2, x.most - 1, x.most} {
			if n >= x.least && n <= x.most {
				c := x.from
				set[x.field](&c, n)
				taken(t, c)
			}
		}
		for _, n := range []int{x.least - 1, x.most + 1, x.least - 2, x.most + 2, -x.most - 1, 2*x.most + 100} {
			c := x.from
			set[x.field](&c, n)
			refused(t, c)
		}
	}
}

// P16.1: 3 F below N, for every N.
func TestCompromised(t *testing.T) {
	for n := 1; n <= 8; n++ {
		for f := -1; f <= 9; f++ {
			c := usual()
			c.N, c.F = n, f
			if f >= 0 && 3*f < n {
				taken(t, c)
			} else {
				refused(t, c)
			}
		}
	}
}

// P16.1: bounds that hang on another number move with it: a config is not right any more, when that one is changed alone.
func TestBoundsMove(t *testing.T) {
	at := api.Config{N: 7, F: 2, Slot: 500, Delay: 2, Keys: 6, E: 2000, Window: 2000, Cap: 8}
	taken(t, at)
	set := fields()
	for _, x := range []struct {
		field string
		n     int
	}{{"N", 6}, {"Slot", 499}, {"Delay", 3}} {
		c := at
		set[x.field](&c, x.n)
		refused(t, c)
	}
}

// traps are numbers at which a check may be deceived: the ends of the types, and those that wrap when they are taken three or four times, or when a few are added.
func traps() []int {
	return []int{
		math.MinInt, math.MinInt + 1, math.MaxInt, math.MaxInt - 1, math.MaxInt - 3, math.MaxInt - 4, math.MinInt32, math.MaxInt32, 1 << 32, 1<<32 + 1, 1<<32 + 4, -1, -100,
		math.MaxInt / 3, math.MaxInt/3 + 1, math.MaxInt / 4, math.MaxInt/4 + 1, 1 << 61, 1 << 62, -1 << 62, 1<<62 + 100, 1<<62 + 400, 1<<61 + 400, -1<<62 + 400,
		// Three times these wrap to -1, 2, 5, 1 and -2.
		6148914691236517205, 6148914691236517206, 6148914691236517207, -6148914691236517205, -6148914691236517206,
	}
}

// P16.1, P1, P6: each field with numbers that are far out, and with every one of them in two fields at once.
func TestFarOut(t *testing.T) {
	for _, one := range fields() {
		for _, n := range traps() {
			c := usual()
			one(&c, n)
			refused(t, c)
			for _, two := range fields() {
				twice := c
				two(&twice, n)
				held(t, twice)
			}
		}
	}
	for _, slot := range traps() {
		for _, n := range traps() {
			c := usual()
			c.Slot, c.E, c.Window = slot, n, n
			refused(t, c)
			c = usual()
			c.Delay, c.Keys = slot, n
			refused(t, c)
			c = usual()
			c.N, c.F = slot, n
			refused(t, c)
		}
	}
}

// P16.1, P1: a config of zeros; one with all numbers the same; ones with several faults at once, one of them mended behind the other.
func TestFaults(t *testing.T) {
	refused(t, api.Config{})
	for _, n := range append(traps(), 1, 2, 4, 5, 8, 64, 300, 400) {
		c := api.Config{N: n, F: n, Slot: n, Delay: n, Keys: n, E: n, Window: n, Rho: n, Slew: n, Cap: n}
		refused(t, c)
		good := usual()
		for _, mend := range []func(){
			func() { c.Cap = good.Cap }, func() { c.Rho = good.Rho }, func() { c.N = good.N }, func() { c.Slot = good.Slot }, func() { c.E = good.E },
			func() { c.Slew = good.Slew }, func() { c.Delay = good.Delay }, func() { c.Keys = good.Keys }, func() { c.F = good.F }, func() { c.Window = good.Window },
		} {
			held(t, c)
			mend()
		}
		taken(t, c)
	}
}

// P16.2: the chapter's example.
func TestExample(t *testing.T) {
	c := api.Config{N: 4, Slot: 400, Delay: 1, Keys: 16, E: 400, Window: 400, Rho: 1, Slew: 2, Cap: 8}
	lies(t, c, 2900, api.Cell{Round: 1, Slot: 3, Off: 100})
	begins(t, c, 1, 3, 2800)
	next(t, c, 3, 2800, 1)
	next(t, c, 3, 2801, 2)
}

// walk goes over the times of a few rounds one by one, counting slots and rounds up, and tells each with its cell.
func walk(c api.Config, rounds int, tell func(at int64, cell api.Cell)) {
	at := int64(0)
	for round := range rounds {
		for slot := range c.N {
			for off := range c.Slot {
				tell(at, api.Cell{Round: round, Slot: slot, Off: off})
				at++
			}
		}
	}
}

// P16.2, P16.3: every time of a few rounds: its cell, when its slot begins, that it is within what Speak tells of that slot alone, and each node's next round.
func TestEveryTime(t *testing.T) {
	for _, c := range sizes() {
		if c.Slot > 1100 {
			continue
		}
		// How many slots of each node have begun ahead of the time.
		begun := make([]int, c.N)
		walk(c, 3, func(at int64, cell api.Cell) {
			lies(t, c, at, cell)
			if cell.Off == 0 {
				begins(t, c, cell.Round, cell.Slot, at)
			}
			for i, rounds := range begun {
				next(t, c, i, at, rounds)
			}
			if cell.Off == 0 {
				begun[cell.Slot]++
			}
		})
	}
}

// P16.3: each time is in just one cell: of all slots of all rounds near it, one speaks then.
func TestJustOneCell(t *testing.T) {
	for _, c := range sizes() {
		for at := int64(0); at < 3*Round(c); at += 61 {
			var found []api.Cell
			for round := range 4 {
				for slot := range c.N {
					if from, to, _ := Speak(c, round, slot); from <= at && at <= to {
						found = append(found, api.Cell{Round: round, Slot: slot, Off: int(at - from)})
					}
				}
			}
			if len(found) != 1 {
				t.Fatalf("%d of %+v is in %v", at, c, found)
			}
			lies(t, c, at, found[0])
		}
	}
}

// someRounds are those at the ends, and some all over.
func someRounds() []int {
	all := []int{0, 1, 2, 3, 7, 255, 256, 65535, 65536, rounds20/2 - 1, rounds20 / 2, rounds20 - 3, rounds20 - 2, rounds20 - 1}
	for n := 5; n < rounds20; n = n*3 + 1 {
		all = append(all, n)
	}
	return all
}

// P16.2, P16.3: the first and the last microtick of slots and of rounds, of the last rounds too: Place of At is that cell, one ahead of it is the cell ahead, one behind its end the next.
func TestFirstAndLast(t *testing.T) {
	for _, c := range sizes() {
		for _, round := range someRounds() {
			for slot := range c.N {
				from := (int64(round)*int64(c.N) + int64(slot)) * int64(c.Slot)
				to := from + int64(c.Slot) - 1
				begins(t, c, round, slot, from)
				lies(t, c, from, api.Cell{Round: round, Slot: slot})
				lies(t, c, from+1, api.Cell{Round: round, Slot: slot, Off: 1})
				lies(t, c, to, api.Cell{Round: round, Slot: slot, Off: c.Slot - 1})
				switch {
				case slot > 0:
					lies(t, c, from-1, api.Cell{Round: round, Slot: slot - 1, Off: c.Slot - 1})
				case round > 0:
					lies(t, c, from-1, api.Cell{Round: round - 1, Slot: c.N - 1, Off: c.Slot - 1})
				default:
					noPlace(t, c, from-1)
				}
				switch {
				case slot < c.N-1:
					lies(t, c, to+1, api.Cell{Round: round, Slot: slot + 1})
				case round < rounds20-1:
					lies(t, c, to+1, api.Cell{Round: round + 1})
				default:
					noPlace(t, c, to+1)
				}
			}
		}
	}
}

// P16.2: Next at the begin of a node's slot, one ahead of it and one behind, for every node, up to the last rounds; what is told is by At the first that does not begin ahead.
func TestNext(t *testing.T) {
	for _, c := range sizes() {
		for _, round := range someRounds() {
			for i := range c.N {
				at, _ := At(c, round, i)
				next(t, c, i, at, round)
				if at > 0 {
					next(t, c, i, at-1, round)
				}
				if round == rounds20-1 {
					noNext(t, c, i, at+1)
					continue
				}
				next(t, c, i, at+1, round+1)
				next(t, c, i, at+Round(c)-1, round+1)
				next(t, c, i, at+Round(c), round+1)
			}
		}
	}
}

// P16.2: a time ahead of the node's first slot: round 0.
func TestNextFirst(t *testing.T) {
	for _, c := range sizes() {
		for i := range c.N {
			for _, at := range []int64{0, 1, int64(i*c.Slot) - 1, int64(i * c.Slot)} {
				if at >= 0 && at <= int64(i*c.Slot) {
					next(t, c, i, at, 0)
				}
			}
		}
	}
}

// P16.2, P6: times of -1, 0, the last whose round is below MaxRounds and one more, MaxTime, MaxTime + 1, and the ends of the type.
func TestTimes(t *testing.T) {
	for _, c := range sizes() {
		over := int64(rounds20) * int64(c.N) * int64(c.Slot)
		lies(t, c, 0, api.Cell{})
		lies(t, c, over-1, api.Cell{Round: rounds20 - 1, Slot: c.N - 1, Off: c.Slot - 1})
		lies(t, c, over-int64(c.Slot), api.Cell{Round: rounds20 - 1, Slot: c.N - 1})
		for i := range c.N {
			next(t, c, i, 0, 0)
			begun := over - int64((c.N-i)*c.Slot)
			next(t, c, i, begun, rounds20-1)
			noNext(t, c, i, begun+1)
			noNext(t, c, i, over-1)
		}
		for _, at := range []int64{-1, -2, -100, -int64(c.Slot), over, over + 1, over + int64(c.Slot), 2 * over, end40 - 1, end40, end40 + 1, 1 << 41, 1 << 62, -end40, math.MinInt32, math.MinInt64, math.MinInt64 + 1, math.MinInt64 + int64(c.Slot), math.MaxInt64 - int64(c.Slot), math.MaxInt64 - 1, math.MaxInt64} {
			noPlace(t, c, at)
			for i := range c.N {
				noNext(t, c, i, at)
			}
		}
	}
}

// P16.2: no slot of a right config begins above MaxTime: the last of the greatest one lies far below.
func TestLastSlot(t *testing.T) {
	c := api.Config{N: 8, F: 2, Slot: 10000, Delay: 4, Keys: 256, E: 40000, Window: 40000, Rho: 5, Slew: 5, Cap: 64}
	begins(t, c, rounds20-1, 7, 83886070000)
	lies(t, c, 83886079999, api.Cell{Round: 1048575, Slot: 7, Off: 9999})
	noPlace(t, c, 83886080000)
}

// P16.2, P6: rounds of -1, 0, MaxRounds - 1 and MaxRounds, slots and nodes of -1, 0, N - 1 and N, and the ends of the type, each with each.
func TestCells(t *testing.T) {
	for _, c := range sizes() {
		rounds := []int{-1, 0, 1, rounds20 - 1, rounds20, rounds20 + 1, 1 << 32, 1 << 40, math.MinInt32, math.MaxInt32, math.MinInt, math.MinInt + 1, math.MaxInt - 1, math.MaxInt}
		slots := []int{-1, 0, c.N - 1, c.N, c.N + 1, 8, 1 << 32, 1<<32 + 1, math.MinInt32, math.MaxInt32, math.MinInt, math.MinInt + 1, math.MaxInt - 1, math.MaxInt}
		for _, slot := range slots {
			node := slot >= 0 && slot < c.N
			for _, round := range rounds {
				if node && round >= 0 && round < rounds20 {
					begins(t, c, round, slot, (int64(round)*int64(c.N)+int64(slot))*int64(c.Slot))
				} else {
					noAt(t, c, round, slot)
				}
			}
			if node {
				next(t, c, slot, 0, 0)
				continue
			}
			for _, at := range []int64{-1, 0, 1, 400, end40, end40 + 1, math.MinInt64, math.MaxInt64} {
				noNext(t, c, slot, at)
			}
		}
	}
}

// P5: what is answered hangs on nothing that was asked ahead of it.
func TestAnswersTheSame(t *testing.T) {
	for range 3 {
		for _, c := range sizes() {
			taken(t, c)
			wrong := c
			wrong.N = 9
			refused(t, wrong)
			begins(t, c, 9, 0, 9*int64(c.N*c.Slot))
			noAt(t, c, 9, c.N)
			lies(t, c, 9*int64(c.N*c.Slot), api.Cell{Round: 9})
			noPlace(t, c, -1)
			next(t, c, 0, 1, 1)
			noNext(t, c, -1, 1)
		}
	}
}

// agree checks that Place, At, Speak and Next say the same of a time, of a config that is right.
func agree(t testing.TB, c api.Config, at int64) {
	t.Helper()
	cell, e := Place(c, at)
	if at < 0 || at >= rounds20*Round(c) {
		noPlace(t, c, at)
		noNext(t, c, 0, at)
		return
	}
	if from, to, told := Speak(c, cell.Round, cell.Slot); e != api.OK || told != api.OK || at < from || at > to || at != from+int64(cell.Off) {
		t.Fatalf("%d of %+v is in %+v, %v, which is %d to %d, %v", at, c, cell, e, from, to, told)
	}
	for i := range c.N {
		round, e := Next(c, i, at)
		if e != api.OK {
			round = rounds20
		} else if from, _ := At(c, round, i); from < at {
			t.Fatalf("Next(%+v, %d, %d) = %d, which begins at %d", c, i, at, round, from)
		}
		if round == 0 {
			continue
		}
		if from, e := At(c, round-1, i); from >= at || e != api.OK {
			t.Fatalf("Next(%+v, %d, %d) = %d, but the one ahead of it begins at %d", c, i, at, round, from)
		}
	}
}

// P16.2, P16.3: times all over all rounds.
func TestAgree(t *testing.T) {
	for _, c := range sizes() {
		over := rounds20 * Round(c)
		for at := int64(0); at <= over+over/8; at += over/4001 + 1 {
			agree(t, c, at)
		}
		for at := over - 3000; at < over+3; at++ {
			agree(t, c, at)
		}
	}
}

// P16.1 to P16.3, P1: any numbers that a fuzzer wants.
func FuzzAll(f *testing.F) {
	f.Add(5, 1, 400, 2, 32, 300, 500, 1, 2, 8, int64(2900), 1, 3)
	f.Add(8, 2, 10000, 4, 256, 40000, 40000, 5, 5, 64, int64(83886079999), rounds20-1, 7)
	f.Add(0, 0, 0, 0, 0, 0, 0, 0, 0, 0, int64(0), 0, 0)
	f.Add(math.MaxInt, math.MinInt, math.MaxInt, math.MaxInt, math.MinInt, math.MaxInt, math.MinInt, math.MaxInt, math.MinInt, math.MaxInt, int64(math.MinInt64), math.MaxInt, math.MinInt)
	f.Fuzz(func(t *testing.T, n, f, slot, delay, keys, e, window, rho, slew, most int, at int64, round, node int) {
		c := api.Config{N: n, F: f, Slot: slot, Delay: delay, Keys: keys, E: e, Window: window, Rho: rho, Slew: slew, Cap: most}
		held(t, c)
		pick := func(n int, least int, most int) int {
			return least + int(uint(n)%uint(most-least+1))
		}
		c.N, c.Slot, c.Delay = pick(n, 1, 8), pick(slot, 300, 10000), pick(delay, 1, 4)
		c.F, c.Keys, c.E, c.Window = pick(f, 0, (c.N-1)/3), pick(keys, c.Delay+4, 256), pick(e, 1, 4*c.Slot), pick(window, 100, 4*c.Slot)
		c.Rho, c.Slew, c.Cap = pick(rho, 0, 5), pick(slew, 0, 5), pick(most, 1, 64)
		taken(t, c)
		agree(t, c, at)
		agree(t, c, at&(1<<37-1))
		if node < 0 || node >= c.N || round < 0 || round >= rounds20 {
			noAt(t, c, round, node)
		}
		round, node = pick(round, 0, rounds20-1), pick(node, 0, c.N-1)
		from := (int64(round)*int64(c.N) + int64(node)) * int64(c.Slot)
		begins(t, c, round, node, from)
		lies(t, c, from, api.Cell{Round: round, Slot: node})
		next(t, c, node, from, round)
	})
}
