package osc

import (
	"math"
	"math/big"
	"math/rand"
	"testing"

	"carillon/api"
)

// end40 is the limit of times as the document writes it.
const end40 = 1 << 40

// words is a clock by the chapter's words, in numbers without an end.
type words struct {
	slew, hardware, now, owed *big.Int
}

func newWords(slew int) *words {
	return &words{big.NewInt(int64(slew)), new(big.Int), new(big.Int), new(big.Int)}
}

// within tells whether n is lo to hi.
func within(n int64, lo int64, hi int64) bool {
	return lo <= n && n <= hi
}

// pays is as much of what is owed as may be in a step of n: of its sign, at most slew times (n and half a Beat, divided by Beat, downwards), and at most n, if it is below 0.
func (w *words) pays(n int64) *big.Int {
	size := new(big.Int).Abs(w.owed)
	beats := new(big.Int).Add(big.NewInt(n), big.NewInt(50))
	beats.Div(beats, big.NewInt(100))
	bounds := []*big.Int{beats.Mul(beats, w.slew)}
	if w.owed.Sign() < 0 {
		bounds = append(bounds, big.NewInt(n))
	}
	for _, b := range bounds {
		if size.Cmp(b) > 0 {
			size.Set(b)
		}
	}
	return size.Mul(size, big.NewInt(int64(w.owed.Sign())))
}

func (w *words) step(n int64) api.Errno {
	if !within(n, 0, 1099511627776) {
		return api.ErrArg
	}
	end, paid := big.NewInt(1099511627776), w.pays(n)
	hardware := new(big.Int).Add(w.hardware, big.NewInt(n))
	now := new(big.Int).Add(w.now, big.NewInt(n))
	now.Add(now, paid)
	if hardware.Cmp(end) > 0 || now.Cmp(end) > 0 {
		return api.ErrFull
	}
	w.hardware, w.now = hardware, now
	w.owed = new(big.Int).Sub(w.owed, paid)
	return api.OK
}

func (w *words) adjust(n int64) api.Errno {
	if !within(n, -1099511627776, 1099511627776) {
		return api.ErrArg
	}
	w.owed = big.NewInt(n)
	return api.OK
}

func (w *words) set(t int64) api.Errno {
	if !within(t, 0, 1099511627776) {
		return api.ErrArg
	}
	w.now, w.owed = big.NewInt(t), new(big.Int)
	return api.OK
}

// made is a clock that New makes.
func made(t testing.TB, slew int) *Clock {
	t.Helper()
	c, e := New(slew)
	if c == nil || e != api.OK {
		t.Fatalf("New(%d) = %v, %v", slew, c, e)
	}
	return c
}

// tells checks all that a clock tells.
func tells(t testing.TB, c *Clock, hardware int64, now int64, owed int64) {
	t.Helper()
	if c.Hardware() != hardware || c.Now() != now || c.Owed() != owed {
		t.Fatalf("hardware %d, clock %d, owed %d, want %d, %d, %d", c.Hardware(), c.Now(), c.Owed(), hardware, now, owed)
	}
}

// at makes a clock with what it tells.
func at(t testing.TB, slew int, hardware int64, now int64, owed int64) *Clock {
	t.Helper()
	c := made(t, slew)
	gets(t, "Step", c.Step(hardware), api.OK)
	gets(t, "Set", c.Set(now), api.OK)
	gets(t, "Adjust", c.Adjust(owed), api.OK)
	tells(t, c, hardware, now, owed)
	return c
}

// gets checks an error of a call.
func gets(t testing.TB, call string, got api.Errno, want api.Errno) {
	t.Helper()
	if got != want {
		t.Fatalf("%s: %v, want %v", call, got, want)
	}
}

// Kinds of acts of a pair.
const (
	step = iota
	adjust
	set
	acts
)

// pair is a clock, and the same one by the chapter's words.
type pair struct {
	c *Clock
	w *words
}

func newPair(t testing.TB, slew int) pair {
	t.Helper()
	return pair{made(t, slew), newWords(slew)}
}

// does lets both do an act, and holds all that the clock tells against the words; nor does it go back but by Set.
func (p pair) does(t testing.TB, kind int, n int64) api.Errno {
	t.Helper()
	before := p.c.Now()
	var got, want api.Errno
	switch kind {
	case step:
		got, want = p.c.Step(n), p.w.step(n)
	case adjust:
		got, want = p.c.Adjust(n), p.w.adjust(n)
	case set:
		got, want = p.c.Set(n), p.w.set(n)
	}
	if got != want {
		t.Fatalf("act %d with %d: %v, want %v", kind, n, got, want)
	}
	if kind != set && p.c.Now() < before {
		t.Fatalf("act %d with %d: from %d back to %d", kind, n, before, p.c.Now())
	}
	if p.c.Now() < 0 || p.c.Now() > end40 || p.c.Hardware() < 0 || p.c.Hardware() > end40 {
		t.Fatalf("act %d with %d: hardware %d, clock %d", kind, n, p.c.Hardware(), p.c.Now())
	}
	tells(t, p.c, p.w.hardware.Int64(), p.w.now.Int64(), p.w.owed.Int64())
	return got
}

// P18.1, P18.2: the chapter's example.
func TestExample(t *testing.T) {
	c := made(t, 2)
	gets(t, "Adjust", c.Adjust(5), api.OK)
	gets(t, "Step", c.Step(100), api.OK)
	tells(t, c, 100, 102, 3)
}

// P18.1: slews at their ends, and what a new clock tells.
func TestNew(t *testing.T) {
	for slew := 0; slew <= 49; slew++ {
		tells(t, made(t, slew), 0, 0, 0)
	}
	for _, slew := range []int{-1, 50, -50, 51, 99, 100, math.MinInt, math.MaxInt, math.MinInt32, math.MaxInt32, 1 << 8, 1 << 16, 1 << 32} {
		if c, e := New(slew); c != nil || e != api.ErrArg {
			t.Errorf("New(%d) = %v, %v", slew, c, e)
		}
	}
}

// P18.1: steps worked out apart.
func TestStepNumbers(t *testing.T) {
	for _, x := range []struct {
		slew         int
		owed, n      int64
		now, owedNow int64
	}{
		{2, 0, 0, 0, 0},
		{2, 0, 1, 1, 0},
		{2, 5, 0, 0, 5},
		{2, 5, 1, 1, 5},
		{2, 5, 49, 49, 5},
		{2, 5, 50, 52, 3},
		{2, 5, 99, 101, 3},
		{2, 5, 100, 102, 3},
		{2, 5, 149, 151, 3},
		{2, 5, 150, 154, 1},
		{2, 5, 249, 253, 1},
		{2, 5, 250, 255, 0},
		{2, 5, 1000, 1005, 0},
		{2, 1, 50, 51, 0},
		{2, 2, 50, 52, 0},
		{2, 3, 50, 52, 1},
		{2, -5, 0, 0, -5},
		{2, -5, 1, 1, -5},
		{2, -5, 49, 49, -5},
		{2, -5, 50, 48, -3},
		{2, -5, 149, 147, -3},
		{2, -5, 150, 146, -1},
		{2, -5, 250, 245, 0},
		{2, -1, 50, 49, 0},
		{2, -2, 50, 48, 0},
		{2, -3, 50, 48, -1},
		{0, 7, 1000000, 1000000, 7},
		{0, -7, 1000000, 1000000, -7},
		{49, 1000, 49, 49, 1000},
		{49, 1000, 50, 99, 951},
		{49, 1000, 150, 248, 902},
		{49, 98, 150, 248, 0},
		{49, 97, 150, 247, 0},
		{49, 99, 150, 248, 1},
		{49, -1000, 49, 49, -1000},
		{49, -1000, 50, 1, -951},
		{49, -1000, 51, 2, -951},
		{49, -1000, 149, 100, -951},
		{49, -1000, 150, 52, -902},
		{49, -end40, 250, 103, -end40 + 147},
		{1, end40, 50, 51, end40 - 1},
		{1, -end40, 50, 49, -end40 + 1},
		{49, -end40, end40, 560750930154, -560750930154},
	} {
		c := made(t, x.slew)
		gets(t, "Adjust", c.Adjust(x.owed), api.OK)
		gets(t, "Step", c.Step(x.n), api.OK)
		tells(t, c, x.n, x.now, x.owedNow)
	}
}

// P18.1: numbers that can't be, of each call, and those beside them that can; nothing changes by the one that is refused.
func TestArguments(t *testing.T) {
	for _, x := range []struct {
		kind int
		n    int64
		want api.Errno
	}{
		{step, -1, api.ErrArg},
		{step, 0, api.OK},
		{step, 1, api.OK},
		{step, end40 - 400, api.OK},
		{step, end40, api.ErrFull},
		{step, end40 + 1, api.ErrArg},
		{step, math.MaxInt64, api.ErrArg},
		{step, math.MinInt64, api.ErrArg},
		{step, math.MaxInt32, api.OK},
		{step, math.MinInt32, api.ErrArg},
		{step, 1<<63 - 50, api.ErrArg},
		{adjust, -end40 - 1, api.ErrArg},
		{adjust, -end40, api.OK},
		{adjust, -1, api.OK},
		{adjust, 0, api.OK},
		{adjust, 1, api.OK},
		{adjust, end40, api.OK},
		{adjust, end40 + 1, api.ErrArg},
		{adjust, math.MaxInt64, api.ErrArg},
		{adjust, math.MinInt64, api.ErrArg},
		{adjust, math.MinInt64 + 1, api.ErrArg},
		{adjust, math.MaxInt32, api.OK},
		{adjust, math.MinInt32, api.OK},
		{set, -1, api.ErrArg},
		{set, 0, api.OK},
		{set, 1, api.OK},
		{set, end40, api.OK},
		{set, end40 + 1, api.ErrArg},
		{set, math.MaxInt64, api.ErrArg},
		{set, math.MinInt64, api.ErrArg},
		{set, math.MaxInt32, api.OK},
		{set, math.MinInt32, api.ErrArg},
	} {
		for _, owed := range []int64{0, 3, -3} {
			for _, slew := range []int{0, 2, 49} {
				p := newPair(t, slew)
				gets(t, "Step", p.does(t, step, 200), api.OK)
				gets(t, "Adjust", p.does(t, adjust, owed), api.OK)
				hardware, now := p.c.Hardware(), p.c.Now()
				gets(t, "the act", p.does(t, x.kind, x.n), x.want)
				if x.want != api.OK {
					tells(t, p.c, hardware, now, owed)
				}
			}
		}
	}
}

// P18.1: a whole MaxTime in one step, from 0 on, and not from 1 on.
func TestLongestStep(t *testing.T) {
	c := made(t, 7)
	gets(t, "Step", c.Step(end40), api.OK)
	tells(t, c, end40, end40, 0)
	gets(t, "Step", c.Step(0), api.OK)
	gets(t, "Step", c.Step(1), api.ErrFull)
	tells(t, c, end40, end40, 0)

	c = at(t, 7, 1, 0, 0)
	gets(t, "Step", c.Step(end40), api.ErrFull)
	tells(t, c, 1, 0, 0)
	gets(t, "Step", c.Step(end40-1), api.OK)
	tells(t, c, end40, end40-1, 0)

	c = at(t, 7, 0, 1, 0)
	gets(t, "Step", c.Step(end40), api.ErrFull)
	tells(t, c, 0, 1, 0)
	gets(t, "Step", c.Step(end40-1), api.OK)
	tells(t, c, end40-1, end40, 0)
}

// P18.1: steps that take hardware, the clock or both to just MaxTime, and one above it; what is owed may alone take the clock above it, or keep it from it. Nothing changes then.
func TestFull(t *testing.T) {
	for _, x := range []struct {
		slew                int
		hardware, now, owed int64
		n                   int64
		want                api.Errno
		nowThen, owedThen   int64
	}{
		// Hardware alone.
		{2, end40 - 100, 0, 0, 100, api.OK, 100, 0},
		{2, end40 - 100, 0, 0, 101, api.ErrFull, 0, 0},
		{2, end40 - 100, 0, -9, 101, api.ErrFull, 0, -9},
		{2, end40 - 100, 0, 9, 100, api.OK, 102, 7},
		{2, end40, 0, 9, 0, api.OK, 0, 9},
		{2, end40, 0, 9, 1, api.ErrFull, 0, 9},
		// The clock alone.
		{2, 7, end40 - 100, 0, 100, api.OK, end40, 0},
		{2, 7, end40 - 100, 0, 101, api.ErrFull, end40 - 100, 0},
		{2, 0, end40, 0, 0, api.OK, end40, 0},
		{2, 0, end40, 0, 1, api.ErrFull, end40, 0},
		{2, 0, end40, 9, 0, api.OK, end40, 9},
		{2, 0, end40, 9, 1, api.ErrFull, end40, 9},
		{2, 0, end40, -9, 1, api.ErrFull, end40, -9},
		// Both.
		{2, end40 - 100, end40 - 100, 0, 100, api.OK, end40, 0},
		{2, end40 - 100, end40 - 100, 0, 101, api.ErrFull, end40 - 100, 0},
		// What is owed takes the clock above it.
		{2, 7, end40 - 102, 9, 100, api.OK, end40, 7},
		{2, 7, end40 - 101, 9, 100, api.ErrFull, end40 - 101, 9},
		{2, 7, end40 - 101, 1, 100, api.OK, end40, 0},
		{2, 7, end40 - 100, 1, 100, api.ErrFull, end40 - 100, 1},
		{2, 7, end40 - 49, 1, 49, api.OK, end40, 1},
		{2, 7, end40 - 50, 1, 50, api.ErrFull, end40 - 50, 1},
		{0, 7, end40 - 100, 9, 100, api.OK, end40, 9},
		{2, end40 - 100, end40 - 100, 1, 100, api.ErrFull, end40 - 100, 1},
		{49, 0, 0, 1, end40, api.ErrFull, 0, 1},
		{49, 0, 0, end40, end40, api.ErrFull, 0, end40},
		// What is owed keeps it from it.
		{2, 7, end40 - 98, -9, 100, api.OK, end40, -7},
		{2, 7, end40 - 97, -9, 100, api.ErrFull, end40 - 97, -9},
		{2, 7, end40 - 99, -1, 100, api.OK, end40, 0},
		{2, 7, end40 - 98, -1, 100, api.ErrFull, end40 - 98, -1},
		{49, 7, end40 - 1, -100, 50, api.OK, end40, -51},
		{49, 7, end40, -100, 50, api.ErrFull, end40, -100},
		{2, end40 - 100, end40 - 98, -2, 100, api.OK, end40, 0},
		{2, end40 - 99, end40 - 98, -2, 100, api.ErrFull, end40 - 98, -2},
		// The longest one, which pays less than it is long.
		{49, 0, 538760697622, -end40, end40, api.OK, end40, -560750930154},
		{49, 0, 538760697623, -end40, end40, api.ErrFull, 538760697623, -end40},
	} {
		c := at(t, x.slew, x.hardware, x.now, x.owed)
		if got := c.Step(x.n); got != x.want {
			t.Fatalf("%+v: %v", x, got)
		}
		hardware := x.hardware
		if x.want == api.OK {
			hardware += x.n
		}
		tells(t, c, hardware, x.nowThen, x.owedThen)
	}
}

// P18.1: a step that is refused does not keep a shorter one from being done, as though it had not been.
func TestFullGoesOn(t *testing.T) {
	c := at(t, 2, 0, end40-150, 9)
	gets(t, "Step", c.Step(150), api.ErrFull)
	gets(t, "Step", c.Step(149), api.ErrFull)
	gets(t, "Step", c.Step(148), api.OK)
	tells(t, c, 148, end40, 7)
	gets(t, "Set", c.Set(0), api.OK)
	gets(t, "Step", c.Step(end40-148), api.OK)
	tells(t, c, end40, end40-148, 0)
}

// P18.1: what is owed is what Adjust said last, whether or not it was paid by then; Adjust moves neither hardware nor clock.
func TestAdjust(t *testing.T) {
	c := made(t, 2)
	for _, n := range []int64{5, -7, 0, end40, -end40, 1, -1, 3} {
		gets(t, "Adjust", c.Adjust(n), api.OK)
		tells(t, c, 0, 0, n)
	}
	gets(t, "Step", c.Step(100), api.OK)
	tells(t, c, 100, 102, 1)
	gets(t, "Adjust", c.Adjust(10), api.OK)
	tells(t, c, 100, 102, 10)
	gets(t, "Adjust", c.Adjust(-10), api.OK)
	gets(t, "Step", c.Step(100), api.OK)
	tells(t, c, 200, 200, -8)
	gets(t, "Adjust", c.Adjust(0), api.OK)
	gets(t, "Step", c.Step(100), api.OK)
	tells(t, c, 300, 300, 0)
}

// P18.1: Set forgets what is owed, moves the clock either way, and leaves the hardware as it is.
func TestSet(t *testing.T) {
	for _, owed := range []int64{0, 5, -5, end40, -end40} {
		for _, to := range []int64{0, 1, 99, 100, 101, end40 - 1, end40} {
			c := at(t, 2, 300, 100, owed)
			gets(t, "Set", c.Set(to), api.OK)
			tells(t, c, 300, to, 0)
			if to <= end40-100 {
				gets(t, "Step", c.Step(100), api.OK)
				tells(t, c, 400, to+100, 0)
			}
		}
		c := at(t, 2, 300, 100, owed)
		gets(t, "Set", c.Set(-1), api.ErrArg)
		gets(t, "Set", c.Set(end40+1), api.ErrArg)
		tells(t, c, 300, 100, owed)
	}
}

// P18.1: what is owed, of each sign, less than, just and more than what a step may pay, for all slews and steps about whole and half Beats.
func TestPaid(t *testing.T) {
	for slew := range 50 {
		for _, n := range []int64{0, 1, 2, 24, 25, 48, 49, 50, 51, 99, 100, 101, 149, 150, 151, 199, 200, 249, 250, 10049, 10050, 1 << 30} {
			most := int64(slew) * ((n + 50) / 100)
			for _, owed := range []int64{0, 1, most - 1, most, most + 1, n, n + 1, 2*most + 2, end40} {
				for _, sign := range []int64{1, -1} {
					p := newPair(t, slew)
					gets(t, "Adjust", p.does(t, adjust, sign*owed), api.OK)
					gets(t, "Step", p.does(t, step, n), api.OK)
				}
			}
		}
	}
}

// P18.1, P18.3: a step so short that it pays at most itself: with what is owed below 0 the clock stands still at worst, for all slews and short steps.
func TestShortSteps(t *testing.T) {
	for slew := range 50 {
		for n := range int64(200) {
			p := newPair(t, slew)
			gets(t, "Set", p.does(t, set, 1000), api.OK)
			gets(t, "Adjust", p.does(t, adjust, -end40), api.OK)
			gets(t, "Step", p.does(t, step, n), api.OK)
			if p.c.Now() < 1000 || p.c.Owed() > n-end40 {
				t.Fatalf("slew %d, step %d: clock %d, owed %d", slew, n, p.c.Now(), p.c.Owed())
			}
		}
	}
}

// P18.3: in a step of a Beat, or up to 49 more or less, the clock goes on by at most slew more or less, and by just that with enough owed.
func TestBeat(t *testing.T) {
	for slew := range int64(50) {
		for n := int64(51); n <= 149; n++ {
			for owed := -slew - 2; owed <= slew+2; owed++ {
				c := at(t, int(slew), 77, 5000, owed)
				gets(t, "Step", c.Step(n), api.OK)
				off := c.Now() - 5000 - n
				if off != max(-slew, min(owed, slew)) || c.Owed() != owed-off || c.Hardware() != 77+n {
					t.Fatalf("slew %d, owed %d, step %d: off by %d, owed %d", slew, owed, n, off, c.Owed())
				}
			}
		}
	}
}

// P18.3: beats in a row pay all that is owed, none of them too much.
func TestPaysInRow(t *testing.T) {
	for _, slew := range []int64{1, 2, 5, 49} {
		for _, owed := range []int64{0, 1, 7, 98, 1000, -1, -7, -98, -1000} {
			c := at(t, int(slew), 0, 0, owed)
			beats := int64(0)
			for c.Owed() != 0 && beats <= 1000 {
				before := c.Now()
				drift := beats%11 - 5
				gets(t, "Step", c.Step(100+drift), api.OK)
				if off := c.Now() - before - 100 - drift; off > slew || off < -slew {
					t.Fatalf("slew %d, owed %d: off by %d", slew, owed, off)
				}
				beats++
			}
			size := max(owed, -owed)
			if want := (size + slew - 1) / slew; beats != want || c.Now() != c.Hardware()+owed {
				t.Fatalf("slew %d, owed %d: %d beats, want %d; clock %d, hardware %d", slew, owed, beats, want, c.Now(), c.Hardware())
			}
		}
	}
}

// P18.1 to P18.3: clocks of all slews, stepped, adjusted and set in turn, by small numbers and great ones, held against the chapter's words behind each act.
func TestInTurn(t *testing.T) {
	r := rand.New(rand.NewSource(18))
	for round := range 600 {
		p := newPair(t, round%50)
		if round%3 == 0 {
			p.does(t, set, end40-r.Int63n(5000))
		}
		if round%5 == 0 {
			p.does(t, step, end40-r.Int63n(5000))
		}
		for range 100 {
			switch r.Intn(8) {
			case 0:
				p.does(t, adjust, r.Int63n(401)-200)
			case 1:
				p.does(t, adjust, r.Int63n(2*end40+3)-end40-1)
			case 2:
				p.does(t, set, max(p.c.Now()+r.Int63n(2001)-1000, -1))
			case 3:
				p.does(t, step, r.Int63n(100))
			case 4:
				p.does(t, step, r.Int63n(10000))
			case 5:
				p.does(t, r.Intn(acts), r.Int63()>>r.Intn(63)-r.Int63()>>r.Intn(63))
			default:
				p.does(t, step, 51+r.Int63n(99))
			}
		}
	}
}

// P18.2, P1: a nil clock, and one that no call made; whatever it is asked, it stays so.
func TestNotMade(t *testing.T) {
	var zero Clock
	for _, c := range []*Clock{nil, &zero, new(Clock)} {
		for _, n := range []int64{0, 1, 100, -1, end40, end40 + 1, -end40, -end40 - 1, math.MaxInt64, math.MinInt64} {
			gets(t, "Step", c.Step(n), api.ErrZero)
			gets(t, "Adjust", c.Adjust(n), api.ErrZero)
			gets(t, "Set", c.Set(n), api.ErrZero)
			tells(t, c, 0, 0, 0)
		}
	}
	if zero != (Clock{}) {
		t.Errorf("it has changed: %+v", zero)
	}
	refused, _ := New(50)
	gets(t, "Step", refused.Step(1), api.ErrZero)
	tells(t, refused, 0, 0, 0)
}

// P18.2: a clock with slew 0 was made, though nothing in it tells so yet.
func TestSlewNought(t *testing.T) {
	c := made(t, 0)
	gets(t, "Adjust", c.Adjust(5), api.OK)
	gets(t, "Step", c.Step(0), api.OK)
	gets(t, "Set", c.Set(0), api.OK)
	gets(t, "Step", c.Step(1000), api.OK)
	tells(t, c, 1000, 1000, 0)
}

// P5: two clocks with the same acts tell the same, and neither touches the other; to be asked changes nothing.
func TestApart(t *testing.T) {
	one, other := made(t, 3), made(t, 3)
	for _, n := range []int64{100, 77, 149, 50} {
		for range 3 {
			tells(t, other, 0, 0, 0)
		}
		one.Adjust(n - 90)
		one.Step(n)
	}
	for _, n := range []int64{100, 77, 149, 50} {
		other.Adjust(n - 90)
		other.Step(n)
	}
	tells(t, one, 376, 376, -37)
	tells(t, other, 376, 376, -37)
}

// P1, P18.1 to P18.3: whatever is asked in turn is answered as the chapter's words say.
func FuzzAll(f *testing.F) {
	f.Add(2, int64(5), int64(100), int64(49), uint8(0b010001))
	f.Add(49, int64(-1000), int64(50), int64(end40), uint8(0b100001))
	f.Add(0, int64(end40), int64(end40), int64(1), uint8(0b000100))
	f.Add(50, int64(math.MinInt64), int64(math.MaxInt64), int64(-1), uint8(0xFF))
	f.Fuzz(func(t *testing.T, slew int, a int64, b int64, c int64, kinds uint8) {
		if slew < 0 || slew > 49 {
			if k, e := New(slew); k != nil || e != api.ErrArg {
				t.Fatalf("New(%d) = %v, %v", slew, k, e)
			}
			return
		}
		p := newPair(t, slew)
		for i, n := range []int64{a, b, c, a, b, c % 1000, a % (end40 + 1), b % 1000, c} {
			p.does(t, int(kinds>>(i%7))%acts, n)
		}
	})
}
