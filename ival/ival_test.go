package ival

import (
	"math"
	"math/big"
	"slices"
	"testing"

	"carillon/api"
	"carillon/rate"
)

const end40 = 1 << 40

// wrong are intervals that are not right: Lo above Hi, an end out of range, both.
var wrong = []api.Ival{
	{Lo: 1, Hi: 0}, {Lo: 0, Hi: -1}, {Lo: 5, Hi: 4}, {Lo: end40, Hi: -end40}, {Lo: end40, Hi: end40 - 1}, {Lo: 1 - end40, Hi: -end40},
	{Lo: -end40 - 1, Hi: 0}, {Lo: 0, Hi: end40 + 1}, {Lo: -end40 - 1, Hi: end40}, {Lo: -end40, Hi: end40 + 1}, {Lo: -end40 - 1, Hi: end40 + 1},
	{Lo: end40 + 1, Hi: end40 + 1}, {Lo: -end40 - 1, Hi: -end40 - 1}, {Lo: end40 + 1, Hi: end40}, {Lo: -end40, Hi: -end40 - 1}, {Lo: end40 + 1, Hi: -end40 - 1},
	{Lo: math.MinInt64, Hi: math.MaxInt64}, {Lo: math.MaxInt64, Hi: math.MinInt64}, {Lo: math.MinInt64, Hi: math.MinInt64}, {Lo: math.MaxInt64, Hi: math.MaxInt64},
	{Lo: math.MinInt64, Hi: 0}, {Lo: 0, Hi: math.MaxInt64}, {Lo: math.MinInt64 + 1, Hi: 0}, {Lo: 0, Hi: math.MinInt64}, {Lo: math.MaxInt64, Hi: 0},
}

// right are intervals that are right, at the ends that the document names among them.
var right = []api.Ival{
	{}, {Lo: 1, Hi: 1}, {Lo: -1, Hi: -1}, {Lo: 0, Hi: 1}, {Lo: -1, Hi: 0}, {Lo: -1, Hi: 1}, {Lo: 1, Hi: 5}, {Lo: 4, Hi: 8}, {Lo: 7, Hi: 9}, {Lo: 2, Hi: 3}, {Lo: 5, Hi: 5}, {Lo: -8, Hi: -3},
	{Lo: end40, Hi: end40}, {Lo: -end40, Hi: -end40}, {Lo: -end40, Hi: end40}, {Lo: 0, Hi: end40}, {Lo: -end40, Hi: 0}, {Lo: end40 - 1, Hi: end40}, {Lo: -end40, Hi: 1 - end40}, {Lo: 1 - end40, Hi: end40 - 1},
	{Lo: math.MinInt32, Hi: math.MaxInt32},
}

// numbers are those at which something may turn.
var numbers = []int64{
	0, 1, -1, 2, -2, 3, 4, 5, 6, 7, 8, 9, 10, -3, -8, -9, math.MaxInt32, math.MinInt32, 1 << 32,
	end40 - 1, end40, end40 + 1, 1 - end40, -end40, -end40 - 1, 2*end40 - 1, 2 * end40, 2*end40 + 1, 1 - 2*end40, -2 * end40, -2*end40 - 1,
	math.MaxInt64, math.MaxInt64 - 1, math.MaxInt64 - end40, math.MaxInt64 - end40 + 1, math.MinInt64, math.MinInt64 + 1, math.MinInt64 + end40, math.MinInt64 + end40 - 1, 1 << 62, -1 << 62,
}

func whole(n int64) *big.Int {
	return big.NewInt(n)
}

// within tells in another way, with numbers that have no end, whether lo to hi is right.
func within(lo *big.Int, hi *big.Int) bool {
	return lo.Cmp(hi) <= 0 && lo.Cmp(whole(-end40)) >= 0 && hi.Cmp(whole(end40)) <= 0
}

func isRight(x api.Ival) bool {
	return within(whole(x.Lo), whole(x.Hi))
}

// moved is lo and hi, each with a number added, as a call must answer it.
func moved(x api.Ival, lo int64, hi int64) (api.Ival, api.Errno) {
	l, h := new(big.Int).Add(whole(x.Lo), whole(lo)), new(big.Int).Add(whole(x.Hi), whole(hi))
	if !isRight(x) || !within(l, h) {
		return api.Ival{}, api.ErrArg
	}
	return api.Ival{Lo: l.Int64(), Hi: h.Int64()}, api.OK
}

// same checks what a call answered.
func same(t *testing.T, call string, got api.Ival, e api.Errno, want api.Ival, wanted api.Errno) {
	t.Helper()
	if got != want || e != wanted {
		t.Errorf("%s: %v, %d, want %v, %d", call, got, e, want, wanted)
	}
}

// holdsAll are the numbers that x holds, if those are few.
func holdsAll(x api.Ival) []int64 {
	var all []int64
	for n := x.Lo; n <= x.Hi; n++ {
		all = append(all, n)
	}
	return all
}

// small are all intervals with ends from lo to hi, those with Lo above Hi, too.
func small(lo int64, hi int64) []api.Ival {
	var all []api.Ival
	for l := lo; l <= hi; l++ {
		for h := lo; h <= hi; h++ {
			all = append(all, api.Ival{Lo: l, Hi: h})
		}
	}
	return all
}

// P8.1: which intervals are right.
func TestRight(t *testing.T) {
	for _, x := range right {
		if !Right(x) {
			t.Errorf("Right(%v) = false", x)
		}
	}
	for _, x := range wrong {
		if Right(x) {
			t.Errorf("Right(%v) = true", x)
		}
	}
	for _, lo := range numbers {
		for _, hi := range numbers {
			x := api.Ival{Lo: lo, Hi: hi}
			if got := Right(x); got != isRight(x) {
				t.Errorf("Right(%v) = %v", x, got)
			}
		}
	}
}

// P8.1: Make tells what is right, and refuses all else.
func TestMake(t *testing.T) {
	for _, x := range right {
		got, e := Make(x.Lo, x.Hi)
		same(t, "Make", got, e, x, api.OK)
	}
	for _, x := range wrong {
		got, e := Make(x.Lo, x.Hi)
		same(t, "Make", got, e, api.Ival{}, api.ErrArg)
	}
	for _, lo := range numbers {
		for _, hi := range numbers {
			want, wanted := moved(api.Ival{}, lo, hi)
			got, e := Make(lo, hi)
			same(t, "Make", got, e, want, wanted)
		}
	}
}

// P8.1: in many numbers, in one, in none, one inside the other, at the ends; either way round.
func TestMeet(t *testing.T) {
	for _, c := range []struct {
		x, y, want api.Ival
		e          api.Errno
	}{
		{api.Ival{Lo: 1, Hi: 5}, api.Ival{Lo: 4, Hi: 8}, api.Ival{Lo: 4, Hi: 5}, api.OK},
		{api.Ival{Lo: 1, Hi: 50}, api.Ival{Lo: 10, Hi: 80}, api.Ival{Lo: 10, Hi: 50}, api.OK},
		{api.Ival{Lo: 1, Hi: 5}, api.Ival{Lo: 5, Hi: 8}, api.Ival{Lo: 5, Hi: 5}, api.OK},
		{api.Ival{Lo: 1, Hi: 5}, api.Ival{Lo: 6, Hi: 8}, api.Ival{}, api.ErrNone},
		{api.Ival{Lo: 1, Hi: 5}, api.Ival{Lo: 100, Hi: 800}, api.Ival{}, api.ErrNone},
		{api.Ival{Lo: 1, Hi: 9}, api.Ival{Lo: 3, Hi: 4}, api.Ival{Lo: 3, Hi: 4}, api.OK},
		{api.Ival{Lo: 1, Hi: 9}, api.Ival{Lo: 1, Hi: 4}, api.Ival{Lo: 1, Hi: 4}, api.OK},
		{api.Ival{Lo: 1, Hi: 9}, api.Ival{Lo: 4, Hi: 9}, api.Ival{Lo: 4, Hi: 9}, api.OK},
		{api.Ival{Lo: 1, Hi: 9}, api.Ival{Lo: 1, Hi: 9}, api.Ival{Lo: 1, Hi: 9}, api.OK},
		{api.Ival{Lo: 3, Hi: 3}, api.Ival{Lo: 3, Hi: 3}, api.Ival{Lo: 3, Hi: 3}, api.OK},
		{api.Ival{Lo: 3, Hi: 3}, api.Ival{Lo: 4, Hi: 4}, api.Ival{}, api.ErrNone},
		{api.Ival{Lo: -9, Hi: -2}, api.Ival{Lo: -4, Hi: 7}, api.Ival{Lo: -4, Hi: -2}, api.OK},
		{api.Ival{Lo: -9, Hi: -1}, api.Ival{Lo: 1, Hi: 7}, api.Ival{}, api.ErrNone},
		{api.Ival{Lo: -9, Hi: 0}, api.Ival{Lo: 0, Hi: 7}, api.Ival{}, api.OK},
		{api.Ival{Lo: -end40, Hi: end40}, api.Ival{Lo: -end40, Hi: end40}, api.Ival{Lo: -end40, Hi: end40}, api.OK},
		{api.Ival{Lo: -end40, Hi: 0}, api.Ival{Lo: 0, Hi: end40}, api.Ival{}, api.OK},
		{api.Ival{Lo: -end40, Hi: -end40}, api.Ival{Lo: end40, Hi: end40}, api.Ival{}, api.ErrNone},
		{api.Ival{Lo: -end40, Hi: end40}, api.Ival{Lo: end40, Hi: end40}, api.Ival{Lo: end40, Hi: end40}, api.OK},
		{api.Ival{Lo: -end40, Hi: end40}, api.Ival{Lo: -end40, Hi: -end40}, api.Ival{Lo: -end40, Hi: -end40}, api.OK},
	} {
		got, e := Meet(c.x, c.y)
		same(t, "Meet", got, e, c.want, c.e)
		got, e = Meet(c.y, c.x)
		same(t, "Meet", got, e, c.want, c.e)
	}
}

// P8.1: side by side, overlapping, one inside the other, from one end to the other.
func TestHull(t *testing.T) {
	for _, c := range []struct{ x, y, want api.Ival }{
		{api.Ival{Lo: 1, Hi: 5}, api.Ival{Lo: 4, Hi: 8}, api.Ival{Lo: 1, Hi: 8}},
		{api.Ival{Lo: 1, Hi: 5}, api.Ival{Lo: 6, Hi: 8}, api.Ival{Lo: 1, Hi: 8}},
		{api.Ival{Lo: 1, Hi: 5}, api.Ival{Lo: 100, Hi: 800}, api.Ival{Lo: 1, Hi: 800}},
		{api.Ival{Lo: 1, Hi: 9}, api.Ival{Lo: 3, Hi: 4}, api.Ival{Lo: 1, Hi: 9}},
		{api.Ival{Lo: 3, Hi: 3}, api.Ival{Lo: 3, Hi: 3}, api.Ival{Lo: 3, Hi: 3}},
		{api.Ival{Lo: 3, Hi: 3}, api.Ival{Lo: -4, Hi: -4}, api.Ival{Lo: -4, Hi: 3}},
		{api.Ival{Lo: -end40, Hi: -end40}, api.Ival{Lo: end40, Hi: end40}, api.Ival{Lo: -end40, Hi: end40}},
		{api.Ival{Lo: -end40, Hi: 0}, api.Ival{Lo: 1, Hi: end40}, api.Ival{Lo: -end40, Hi: end40}},
		{api.Ival{}, api.Ival{Lo: end40, Hi: end40}, api.Ival{Lo: 0, Hi: end40}},
		{api.Ival{}, api.Ival{}, api.Ival{}},
	} {
		got, e := Hull(c.x, c.y)
		same(t, "Hull", got, e, c.want, api.OK)
		got, e = Hull(c.y, c.x)
		same(t, "Hull", got, e, c.want, api.OK)
	}
}

// P8.1, P2: one wrong, the other wrong, both wrong: ErrArg, where there is nothing that both hold, too, and nothing beside it.
func TestTwoRefused(t *testing.T) {
	for _, x := range wrong {
		for _, y := range slices.Concat(wrong, right) {
			for _, c := range [][2]api.Ival{{x, y}, {y, x}} {
				got, e := Meet(c[0], c[1])
				same(t, "Meet", got, e, api.Ival{}, api.ErrArg)
				got, e = Hull(c[0], c[1])
				same(t, "Hull", got, e, api.Ival{}, api.ErrArg)
			}
		}
	}
}

// P8.1, P2: of one interval that is wrong nothing is told.
func TestOneRefused(t *testing.T) {
	for _, x := range wrong {
		for _, n := range numbers {
			got, e := Shift(x, n)
			same(t, "Shift", got, e, api.Ival{}, api.ErrArg)
			got, e = Grow(x, n, 3)
			same(t, "Grow", got, e, api.Ival{}, api.ErrArg)
			if Holds(x, n) || Inside(x, n) {
				t.Errorf("%v, %d: Holds %v, Inside %v", x, n, Holds(x, n), Inside(x, n))
			}
		}
		for _, n := range []int64{x.Lo, x.Hi, x.Lo/2 + x.Hi/2} {
			if Holds(x, n) {
				t.Errorf("Holds(%v, %d) = true", x, n)
			}
		}
		got, e := Grow(x, 0, 0)
		same(t, "Grow", got, e, api.Ival{}, api.ErrArg)
		if m, e := Middle(x); m != 0 || e != api.ErrArg {
			t.Errorf("Middle(%v) = %d, %d", x, m, e)
		}
	}
}

// P8.1: a wrong one that a shift would bring into range is refused all the same.
func TestShiftOfWrong(t *testing.T) {
	for _, c := range []struct {
		x api.Ival
		n int64
	}{
		{api.Ival{Lo: end40 + 1, Hi: end40 + 1}, -1}, {api.Ival{Lo: 0, Hi: end40 + 1}, -1}, {api.Ival{Lo: -end40 - 1, Hi: 0}, 1},
		{api.Ival{Lo: 2 * end40, Hi: 2 * end40}, -2 * end40}, {api.Ival{Lo: math.MaxInt64, Hi: math.MaxInt64}, math.MinInt64}, {api.Ival{Lo: math.MaxInt64, Hi: math.MinInt64}, 1},
	} {
		got, e := Shift(c.x, c.n)
		same(t, "Shift", got, e, api.Ival{}, api.ErrArg)
	}
}

// P8.1, P6: both ways, by nothing, just within the ends and just past them, by the ends of the type.
func TestShift(t *testing.T) {
	for _, c := range []struct {
		x    api.Ival
		n    int64
		want api.Ival
		e    api.Errno
	}{
		{api.Ival{Lo: 1, Hi: 5}, -3, api.Ival{Lo: -2, Hi: 2}, api.OK},
		{api.Ival{Lo: 1, Hi: 5}, 3, api.Ival{Lo: 4, Hi: 8}, api.OK},
		{api.Ival{Lo: 1, Hi: 5}, 0, api.Ival{Lo: 1, Hi: 5}, api.OK},
		{api.Ival{Lo: 1, Hi: 5}, end40 - 5, api.Ival{Lo: end40 - 4, Hi: end40}, api.OK},
		{api.Ival{Lo: 1, Hi: 5}, end40 - 4, api.Ival{}, api.ErrArg},
		{api.Ival{Lo: 1, Hi: 5}, end40 - 1, api.Ival{}, api.ErrArg},
		{api.Ival{Lo: 1, Hi: 5}, end40, api.Ival{}, api.ErrArg},
		{api.Ival{Lo: 1, Hi: 5}, -end40 - 1, api.Ival{Lo: -end40, Hi: 4 - end40}, api.OK},
		{api.Ival{Lo: 1, Hi: 5}, -end40 - 2, api.Ival{}, api.ErrArg},
		{api.Ival{Lo: 1, Hi: 5}, -end40 - 5, api.Ival{}, api.ErrArg},
		{api.Ival{}, end40, api.Ival{Lo: end40, Hi: end40}, api.OK},
		{api.Ival{}, end40 + 1, api.Ival{}, api.ErrArg},
		{api.Ival{}, -end40, api.Ival{Lo: -end40, Hi: -end40}, api.OK},
		{api.Ival{}, -end40 - 1, api.Ival{}, api.ErrArg},
		{api.Ival{Lo: -end40, Hi: end40}, 0, api.Ival{Lo: -end40, Hi: end40}, api.OK},
		{api.Ival{Lo: -end40, Hi: end40}, 1, api.Ival{}, api.ErrArg},
		{api.Ival{Lo: -end40, Hi: end40}, -1, api.Ival{}, api.ErrArg},
		{api.Ival{Lo: -end40, Hi: -end40}, 2 * end40, api.Ival{Lo: end40, Hi: end40}, api.OK},
		{api.Ival{Lo: -end40, Hi: -end40}, 2*end40 + 1, api.Ival{}, api.ErrArg},
		{api.Ival{Lo: end40, Hi: end40}, -2 * end40, api.Ival{Lo: -end40, Hi: -end40}, api.OK},
		{api.Ival{Lo: end40, Hi: end40}, -2*end40 - 1, api.Ival{}, api.ErrArg},
		{api.Ival{Lo: -end40, Hi: 1 - end40}, 2*end40 - 1, api.Ival{Lo: end40 - 1, Hi: end40}, api.OK},
		{api.Ival{Lo: -1, Hi: 1}, math.MaxInt64, api.Ival{}, api.ErrArg},
		{api.Ival{Lo: 1, Hi: 1}, math.MaxInt64, api.Ival{}, api.ErrArg},
		{api.Ival{Lo: end40, Hi: end40}, math.MaxInt64, api.Ival{}, api.ErrArg},
		{api.Ival{Lo: -end40, Hi: -end40}, math.MinInt64, api.Ival{}, api.ErrArg},
		{api.Ival{Lo: -1, Hi: 1}, math.MinInt64, api.Ival{}, api.ErrArg},
	} {
		got, e := Shift(c.x, c.n)
		same(t, "Shift", got, e, c.want, c.e)
	}
	for _, x := range slices.Concat(right, wrong) {
		for _, n := range numbers {
			want, wanted := moved(x, n, n)
			got, e := Shift(x, n)
			same(t, "Shift", got, e, want, wanted)
		}
	}
}

// P8.1: by a spread, by none, just within the ends and just past them.
func TestGrow(t *testing.T) {
	for _, c := range []struct {
		x    api.Ival
		a    int64
		d    int
		want api.Ival
		e    api.Errno
	}{
		{api.Ival{Lo: 1, Hi: 5}, 200, 3, api.Ival{Lo: -11, Hi: 17}, api.OK},
		{api.Ival{Lo: 1, Hi: 5}, 0, 3, api.Ival{Lo: 1, Hi: 5}, api.OK},
		{api.Ival{Lo: 1, Hi: 5}, 200, 0, api.Ival{Lo: 1, Hi: 5}, api.OK},
		{api.Ival{Lo: 1, Hi: 5}, api.MaxTime, 0, api.Ival{Lo: 1, Hi: 5}, api.OK},
		{api.Ival{Lo: 1, Hi: 5}, 0, 49, api.Ival{Lo: 1, Hi: 5}, api.OK},
		{api.Ival{Lo: 3, Hi: 3}, 100, 49, api.Ival{Lo: -189, Hi: 195}, api.OK},
		{api.Ival{Lo: 1, Hi: 5}, api.MaxTime, 1, api.Ival{Lo: 1 - 22212356116, Hi: 5 + 22212356116}, api.OK},
		{api.Ival{Lo: 1, Hi: 5}, api.MaxTime, 49, api.Ival{}, api.ErrArg},
		{api.Ival{Lo: 12 - end40, Hi: end40 - 12}, 200, 3, api.Ival{Lo: -end40, Hi: end40}, api.OK},
		{api.Ival{Lo: 11 - end40, Hi: end40 - 12}, 200, 3, api.Ival{}, api.ErrArg},
		{api.Ival{Lo: 12 - end40, Hi: end40 - 11}, 200, 3, api.Ival{}, api.ErrArg},
		{api.Ival{Lo: 11 - end40, Hi: end40 - 11}, 200, 3, api.Ival{}, api.ErrArg},
		{api.Ival{Lo: 11 - end40, Hi: 0}, 200, 3, api.Ival{}, api.ErrArg},
		{api.Ival{Lo: 0, Hi: end40 - 11}, 200, 3, api.Ival{}, api.ErrArg},
		{api.Ival{Lo: -end40, Hi: end40}, 200, 0, api.Ival{Lo: -end40, Hi: end40}, api.OK},
		{api.Ival{Lo: -end40, Hi: end40}, 200, 3, api.Ival{}, api.ErrArg},
		{api.Ival{Lo: -end40, Hi: end40}, api.MaxTime, 49, api.Ival{}, api.ErrArg},
		{api.Ival{}, -1, 3, api.Ival{}, api.ErrArg},
		{api.Ival{}, -1, 0, api.Ival{}, api.ErrArg},
		{api.Ival{}, api.MaxTime + 1, 0, api.Ival{}, api.ErrArg},
		{api.Ival{}, 0, -1, api.Ival{}, api.ErrArg},
		{api.Ival{}, 0, 50, api.Ival{}, api.ErrArg},
		{api.Ival{}, 1, 50, api.Ival{}, api.ErrArg},
		{api.Ival{}, math.MinInt64, math.MinInt, api.Ival{}, api.ErrArg},
		{api.Ival{}, math.MaxInt64, math.MaxInt, api.Ival{}, api.ErrArg},
	} {
		got, e := Grow(c.x, c.a, c.d)
		same(t, "Grow", got, e, c.want, c.e)
	}
}

// P8.1: any interval, a and d, held against rate.Spread.
func TestGrowBySpread(t *testing.T) {
	drifts := []int{0, 1, 2, 3, 10, 33, 34, 48, 49, 50, 51, -1, 99, 100, 101, -100, math.MinInt32, math.MaxInt32, math.MinInt, math.MaxInt}
	for _, x := range slices.Concat(right, wrong) {
		for _, a := range append([]int64{100, 200, 1000, 1 << 20, 1 << 39}, numbers...) {
			for _, d := range drifts {
				n, refused := rate.Spread(a, d)
				want, wanted := moved(x, -n, n)
				if refused != api.OK {
					want, wanted = api.Ival{}, api.ErrArg
				}
				got, e := Grow(x, a, d)
				same(t, "Grow", got, e, want, wanted)
			}
		}
	}
}

// P8.1: at both ends, one beyond them, at the ends of the type.
func TestHolds(t *testing.T) {
	for _, c := range []struct {
		x    api.Ival
		n    int64
		want bool
	}{
		{api.Ival{Lo: 1, Hi: 5}, 0, false}, {api.Ival{Lo: 1, Hi: 5}, 1, true}, {api.Ival{Lo: 1, Hi: 5}, 3, true}, {api.Ival{Lo: 1, Hi: 5}, 5, true}, {api.Ival{Lo: 1, Hi: 5}, 6, false},
		{api.Ival{}, 0, true}, {api.Ival{}, 1, false}, {api.Ival{}, -1, false},
		{api.Ival{Lo: -end40, Hi: end40}, end40, true}, {api.Ival{Lo: -end40, Hi: end40}, -end40, true}, {api.Ival{Lo: -end40, Hi: end40}, end40 + 1, false}, {api.Ival{Lo: -end40, Hi: end40}, -end40 - 1, false},
		{api.Ival{Lo: -end40, Hi: end40}, math.MaxInt64, false}, {api.Ival{Lo: -end40, Hi: end40}, math.MinInt64, false},
		{api.Ival{Lo: 0, Hi: end40 + 1}, 5, false}, {api.Ival{Lo: 5, Hi: 1}, 3, false}, {api.Ival{Lo: 5, Hi: 1}, 5, false}, {api.Ival{Lo: end40 + 1, Hi: end40 + 1}, end40 + 1, false},
	} {
		if got := Holds(c.x, c.n); got != c.want {
			t.Errorf("Holds(%v, %d) = %v", c.x, c.n, got)
		}
	}
	for _, x := range slices.Concat(right, wrong) {
		for _, n := range numbers {
			if want := isRight(x) && n >= x.Lo && n <= x.Hi; Holds(x, n) != want {
				t.Errorf("Holds(%v, %d) = %v", x, n, !want)
			}
		}
	}
}

// P8.1: e of 0, below 0, at MaxTime and past it, at the ends of the type.
func TestInside(t *testing.T) {
	for _, c := range []struct {
		x    api.Ival
		e    int64
		want bool
	}{
		{api.Ival{Lo: 1, Hi: 5}, 5, true}, {api.Ival{Lo: 1, Hi: 5}, 4, false}, {api.Ival{Lo: 1, Hi: 5}, 6, true}, {api.Ival{Lo: 1, Hi: 5}, 0, false}, {api.Ival{Lo: 1, Hi: 5}, -1, false}, {api.Ival{Lo: 1, Hi: 5}, -5, false},
		{api.Ival{Lo: -5, Hi: 1}, 5, true}, {api.Ival{Lo: -5, Hi: 1}, 4, false}, {api.Ival{Lo: -5, Hi: -1}, 5, true}, {api.Ival{Lo: -5, Hi: -1}, 4, false}, {api.Ival{Lo: -5, Hi: 5}, 5, true}, {api.Ival{Lo: -5, Hi: 5}, 4, false},
		{api.Ival{}, 0, true}, {api.Ival{}, 1, true}, {api.Ival{}, -1, false}, {api.Ival{Lo: 0, Hi: 1}, 0, false}, {api.Ival{Lo: -1, Hi: 0}, 0, false},
		{api.Ival{Lo: -end40, Hi: end40}, end40, true}, {api.Ival{Lo: -end40, Hi: end40}, end40 - 1, false}, {api.Ival{Lo: -end40, Hi: end40}, end40 + 1, true}, {api.Ival{Lo: -end40, Hi: end40}, math.MaxInt64, true},
		{api.Ival{Lo: -end40, Hi: end40}, math.MinInt64, false}, {api.Ival{Lo: -end40, Hi: -end40}, math.MinInt64, false}, {api.Ival{}, math.MinInt64, false}, {api.Ival{}, math.MinInt64 + 1, false},
		{api.Ival{Lo: 0, Hi: end40 + 1}, math.MaxInt64, false}, {api.Ival{Lo: -end40 - 1, Hi: 0}, math.MaxInt64, false}, {api.Ival{Lo: 3, Hi: 2}, 5, false}, {api.Ival{Lo: 3, Hi: -3}, -3, false}, {api.Ival{Lo: math.MinInt64, Hi: math.MinInt64}, math.MinInt64, false},
	} {
		if got := Inside(c.x, c.e); got != c.want {
			t.Errorf("Inside(%v, %d) = %v", c.x, c.e, got)
		}
	}
	for _, x := range slices.Concat(right, wrong, small(-4, 4)) {
		for _, n := range numbers {
			less := new(big.Int).Neg(whole(n))
			if want := isRight(x) && less.Cmp(whole(x.Lo)) <= 0 && x.Hi <= n; Inside(x, n) != want {
				t.Errorf("Inside(%v, %d) = %v", x, n, !want)
			}
		}
	}
}

// P8.1: halves that go out even and ones that don't, above 0 and below.
func TestMiddle(t *testing.T) {
	for _, c := range []struct {
		x    api.Ival
		want int64
	}{
		{api.Ival{Lo: 1, Hi: 5}, 3}, {api.Ival{Lo: 1, Hi: 4}, 2}, {api.Ival{Lo: 0, Hi: 1}, 0}, {api.Ival{Lo: -1, Hi: 0}, 0}, {api.Ival{Lo: -4, Hi: 1}, -1}, {api.Ival{Lo: -1, Hi: 4}, 1}, {api.Ival{Lo: -5, Hi: -2}, -3}, {api.Ival{Lo: -5, Hi: -1}, -3},
		{api.Ival{}, 0}, {api.Ival{Lo: 7, Hi: 7}, 7}, {api.Ival{Lo: -7, Hi: -7}, -7}, {api.Ival{Lo: -3, Hi: 3}, 0}, {api.Ival{Lo: -3, Hi: 4}, 0}, {api.Ival{Lo: -4, Hi: 3}, 0},
		{api.Ival{Lo: end40, Hi: end40}, end40}, {api.Ival{Lo: -end40, Hi: -end40}, -end40}, {api.Ival{Lo: -end40, Hi: end40}, 0}, {api.Ival{Lo: end40 - 1, Hi: end40}, end40 - 1}, {api.Ival{Lo: -end40, Hi: 1 - end40}, 1 - end40}, {api.Ival{Lo: 0, Hi: end40}, end40 / 2},
	} {
		if got, e := Middle(c.x); got != c.want || e != api.OK {
			t.Errorf("Middle(%v) = %d, %d, want %d", c.x, got, e, c.want)
		}
	}
	for _, x := range slices.Concat(right, small(-6, 6)) {
		if !isRight(x) {
			continue
		}
		sum := new(big.Int).Add(whole(x.Lo), whole(x.Hi))
		if got, e := Middle(x); got != sum.Quo(sum, whole(2)).Int64() || e != api.OK || !Holds(x, got) {
			t.Errorf("Middle(%v) = %d, %d", x, got, e)
		}
	}
}

// slowMost tells the promise's words in another way: Lo by Lo, each asked of all.
func slowMost(l []api.Ival) (api.Ival, int) {
	var best api.Ival
	most := 0
	for _, x := range l {
		if !isRight(x) {
			continue
		}
		n, least := 0, x.Hi
		for _, y := range l {
			if isRight(y) && y.Lo <= x.Lo && x.Lo <= y.Hi {
				n++
				least = min(least, y.Hi)
			}
		}
		if n > most || n == most && x.Lo < best.Lo {
			best, most = api.Ival{Lo: x.Lo, Hi: least}, n
		}
	}
	return best, most
}

// mostIs checks Most, and that the list that was handed in is as it was.
func mostIs(t *testing.T, l []api.Ival, want api.Ival, wanted int) {
	t.Helper()
	was := slices.Clone(l)
	if got, n := Most(l); got != want || n != wanted {
		t.Errorf("Most(%v) = %v, %d, want %v, %d", was, got, n, want, wanted)
	}
	if !slices.Equal(l, was) {
		t.Errorf("Most(%v) made %v of it", was, l)
	}
}

// orders goes over all orders of l.
func orders(l []api.Ival, yield func([]api.Ival)) {
	var put func(k int)
	l = slices.Clone(l)
	put = func(k int) {
		if k == len(l) {
			yield(l)
			return
		}
		for i := k; i < len(l); i++ {
			l[k], l[i] = l[i], l[k]
			put(k + 1)
			l[k], l[i] = l[i], l[k]
		}
	}
	put(0)
}

// P8.2: the chapter's example, none, one, equal ones, wrong ones among right ones, several places at which as many hold; in any order.
func TestMost(t *testing.T) {
	for _, c := range []struct {
		l    []api.Ival
		want api.Ival
		n    int
	}{
		{[]api.Ival{{Lo: 1, Hi: 5}, {Lo: 4, Hi: 8}, {Lo: 7, Hi: 9}}, api.Ival{Lo: 4, Hi: 5}, 2},
		{nil, api.Ival{}, 0},
		{[]api.Ival{}, api.Ival{}, 0},
		{[]api.Ival{{Lo: 3, Hi: 8}}, api.Ival{Lo: 3, Hi: 8}, 1},
		{[]api.Ival{{}}, api.Ival{}, 1},
		{[]api.Ival{{}, {}}, api.Ival{}, 2},
		{[]api.Ival{{Lo: 5, Hi: 5}}, api.Ival{Lo: 5, Hi: 5}, 1},
		{[]api.Ival{{Lo: 8, Hi: 3}}, api.Ival{}, 0},
		{[]api.Ival{{Lo: 8, Hi: 3}, {Lo: 0, Hi: end40 + 1}, {Lo: -end40 - 1, Hi: 0}}, api.Ival{}, 0},
		{[]api.Ival{{Lo: 8, Hi: 3}, {Lo: 4, Hi: 4}, {Lo: 0, Hi: end40 + 1}, {Lo: -end40 - 1, Hi: 9}}, api.Ival{Lo: 4, Hi: 4}, 1},
		{[]api.Ival{{Lo: 4, Hi: 6}, {Lo: -end40 - 1, Hi: 5}}, api.Ival{Lo: 4, Hi: 6}, 1}, // a wrong one cuts nothing off
		{[]api.Ival{{Lo: 1, Hi: 5}, {Lo: 9, Hi: 2}, {Lo: 4, Hi: 8}, {Lo: 7, Hi: 9}}, api.Ival{Lo: 4, Hi: 5}, 2},
		{[]api.Ival{{Lo: 2, Hi: 6}, {Lo: 2, Hi: 6}, {Lo: 2, Hi: 6}}, api.Ival{Lo: 2, Hi: 6}, 3},
		{[]api.Ival{{Lo: 2, Hi: 6}, {Lo: 2, Hi: 9}, {Lo: 2, Hi: 4}}, api.Ival{Lo: 2, Hi: 4}, 3},
		{[]api.Ival{{Lo: 2, Hi: 6}, {Lo: 3, Hi: 6}, {Lo: 4, Hi: 6}}, api.Ival{Lo: 4, Hi: 6}, 3},
		{[]api.Ival{{Lo: 1, Hi: 2}, {Lo: 3, Hi: 4}, {Lo: 5, Hi: 6}}, api.Ival{Lo: 1, Hi: 2}, 1},
		{[]api.Ival{{Lo: 1, Hi: 3}, {Lo: 3, Hi: 5}, {Lo: 5, Hi: 7}}, api.Ival{Lo: 3, Hi: 3}, 2},
		{[]api.Ival{{Lo: 1, Hi: 3}, {Lo: 2, Hi: 3}, {Lo: 8, Hi: 20}, {Lo: 9, Hi: 20}}, api.Ival{Lo: 2, Hi: 3}, 2},
		{[]api.Ival{{Lo: 1, Hi: 20}, {Lo: 3, Hi: 5}, {Lo: 8, Hi: 9}, {Lo: 9, Hi: 9}}, api.Ival{Lo: 9, Hi: 9}, 3},
		{[]api.Ival{{Lo: -9, Hi: -1}, {Lo: -5, Hi: 4}, {Lo: 1, Hi: 2}, {Lo: 2, Hi: 3}}, api.Ival{Lo: 2, Hi: 2}, 3},
		{[]api.Ival{{Lo: 1, Hi: 9}, {Lo: 4, Hi: 5}, {Lo: 4, Hi: 4}, {Lo: 5, Hi: 5}}, api.Ival{Lo: 4, Hi: 4}, 3},
		{[]api.Ival{{Lo: -end40, Hi: end40}, {Lo: -end40, Hi: -end40}, {Lo: end40, Hi: end40}}, api.Ival{Lo: -end40, Hi: -end40}, 2},
		{[]api.Ival{{Lo: -end40, Hi: end40}, {Lo: end40, Hi: end40}}, api.Ival{Lo: end40, Hi: end40}, 2},
		{[]api.Ival{{Lo: -end40, Hi: end40}}, api.Ival{Lo: -end40, Hi: end40}, 1},
		{[]api.Ival{{Lo: end40, Hi: end40}, {Lo: end40 - 1, Hi: end40}, {Lo: end40, Hi: end40 + 1}}, api.Ival{Lo: end40, Hi: end40}, 2},
		{[]api.Ival{{Lo: math.MinInt64, Hi: math.MaxInt64}, {Lo: math.MinInt64, Hi: math.MinInt64}, {Lo: math.MaxInt64, Hi: math.MaxInt64}, {Lo: 3, Hi: 4}}, api.Ival{Lo: 3, Hi: 4}, 1},
	} {
		orders(c.l, func(l []api.Ival) { mostIs(t, l, c.want, c.n) })
	}
	mostIs(t, wrong, api.Ival{}, 0)
	for _, x := range wrong {
		mostIs(t, []api.Ival{x}, api.Ival{}, 0)
		mostIs(t, []api.Ival{{Lo: 4, Hi: 6}, x, {Lo: 5, Hi: 7}}, api.Ival{Lo: 5, Hi: 6}, 2)
	}
}

// P8.2: all lists of up to three small intervals.
func TestMostOfSmall(t *testing.T) {
	all := small(0, 4)
	for _, x := range all {
		for _, y := range all {
			for _, z := range all {
				l := []api.Ival{x, y, z}
				want, n := slowMost(l)
				mostIs(t, l, want, n)
			}
		}
	}
}

// draw makes lists in an order that seed gives.
func draw(seed uint32, n int, width uint32) []api.Ival {
	next := func() int64 {
		seed = seed*1664525 + 1013904223
		return int64(seed>>8)%int64(width) - int64(width)/2
	}
	var l []api.Ival
	for range n {
		x := api.Ival{Lo: next()}
		x.Hi = x.Lo + next()/4
		l = append(l, x)
	}
	return l
}

// P8.2: longer lists, told in another way.
func TestMostOfMany(t *testing.T) {
	for seed := range uint32(400) {
		l := draw(seed, int(seed%60), 4+seed)
		want, n := slowMost(l)
		mostIs(t, l, want, n)
	}
	l := slices.Concat(right, wrong, right)
	want, n := slowMost(l)
	mostIs(t, l, want, n)
}

// P8.2, P1: a long list ends in good time.
func TestMostOfVeryMany(t *testing.T) {
	const n = 300000
	l := make([]api.Ival, n)
	for i := range l {
		l[i] = api.Ival{Lo: int64(i), Hi: 2*n - int64(i)}
	}
	slices.Reverse(l)
	mostIs(t, l, api.Ival{Lo: n - 1, Hi: n + 1}, n)
}

// P8.2, P4: what lies behind the list in its memory is as it was.
func TestMostKeepsOff(t *testing.T) {
	memory := []api.Ival{{Lo: 9, Hi: 11}, {Lo: 10, Hi: 12}, {Lo: 1, Hi: 5}, {Lo: 77, Hi: 78}, {Lo: 70, Hi: 71}}
	was := slices.Clone(memory)
	mostIs(t, memory[:3], api.Ival{Lo: 10, Hi: 11}, 2)
	if !slices.Equal(memory, was) {
		t.Errorf("%v", memory)
	}
}

// P8.3: number by number, what both hold is in the meet and nothing else, and what one holds is not outside the hull, which has nothing to spare at its ends.
func TestMeetAndHull(t *testing.T) {
	for _, x := range small(-3, 3) {
		for _, y := range small(-3, 3) {
			both, e := Meet(x, y)
			hull, e2 := Hull(x, y)
			if !isRight(x) || !isRight(y) {
				if e != api.ErrArg || e2 != api.ErrArg {
					t.Errorf("%v, %v: %d, %d", x, y, e, e2)
				}
				continue
			}
			found := false
			for n := int64(-5); n <= 5; n++ {
				inX, inY := slices.Contains(holdsAll(x), n), slices.Contains(holdsAll(y), n)
				found = found || inX && inY
				if in := e == api.OK && Holds(both, n); in != (inX && inY) {
					t.Errorf("Meet(%v, %v) = %v, %d: %d", x, y, both, e, n)
				}
				if (inX || inY) && !Holds(hull, n) {
					t.Errorf("Hull(%v, %v) = %v, %d: %d", x, y, hull, e2, n)
				}
			}
			if found != (e == api.OK) || !found && e != api.ErrNone {
				t.Errorf("Meet(%v, %v) = %v, %d", x, y, both, e)
			}
			if e2 != api.OK || !Holds(x, hull.Lo) && !Holds(y, hull.Lo) || !Holds(x, hull.Hi) && !Holds(y, hull.Hi) {
				t.Errorf("Hull(%v, %v) = %v, %d", x, y, hull, e2)
			}
		}
	}
}

// P8.3: the same of wide intervals, at the numbers where something may turn.
func TestMeetAndHullOfWide(t *testing.T) {
	for _, x := range right {
		for _, y := range right {
			both, e := Meet(x, y)
			hull, e2 := Hull(x, y)
			if e2 != api.OK || e != api.OK && e != api.ErrNone {
				t.Errorf("%v, %v: %d, %d", x, y, e, e2)
			}
			for _, n := range numbers {
				if in := e == api.OK && Holds(both, n); in != (Holds(x, n) && Holds(y, n)) {
					t.Errorf("Meet(%v, %v) = %v, %d: %d", x, y, both, e, n)
				}
				if (Holds(x, n) || Holds(y, n)) && !Holds(hull, n) {
					t.Errorf("Hull(%v, %v) = %v: %d", x, y, hull, n)
				}
			}
		}
	}
}

// P5: what is answered hangs on nothing that was asked ahead of it.
func TestAnswersTheSame(t *testing.T) {
	for range 3 {
		got, e := Meet(api.Ival{Lo: 1, Hi: 5}, api.Ival{Lo: 4, Hi: 8})
		same(t, "Meet", got, e, api.Ival{Lo: 4, Hi: 5}, api.OK)
		got, e = Meet(api.Ival{Lo: 1, Hi: 5}, api.Ival{Lo: 8, Hi: 4})
		same(t, "Meet", got, e, api.Ival{}, api.ErrArg)
		mostIs(t, []api.Ival{{Lo: 1, Hi: 5}, {Lo: 4, Hi: 8}}, api.Ival{Lo: 4, Hi: 5}, 2)
		mostIs(t, nil, api.Ival{}, 0)
	}
}

// P8.1, P8.2, P8.3: any numbers that a fuzzer wants.
func FuzzAll(f *testing.F) {
	f.Add(int64(1), int64(5), int64(4), int64(8), int64(200), 3)
	f.Add(int64(-end40), int64(end40), int64(end40), int64(end40+1), int64(-2*end40), 49)
	f.Add(int64(math.MinInt64), int64(math.MaxInt64), int64(0), int64(math.MinInt64), int64(math.MaxInt64), math.MinInt)
	f.Fuzz(func(t *testing.T, a int64, b int64, c int64, d int64, n int64, drift int) {
		x, y := api.Ival{Lo: a, Hi: b}, api.Ival{Lo: c, Hi: d}
		checkAll(t, x, y, n, drift)
		checkAll(t, tamed(x), tamed(y), n%(1<<41), drift%50)
	})
}

// tamed is an interval that is right, or near it.
func tamed(x api.Ival) api.Ival {
	return api.Ival{Lo: min(x.Lo%(1<<41), x.Hi%(1<<41)), Hi: max(x.Lo%(1<<41), x.Hi%(1<<41))}
}

func checkAll(t *testing.T, x api.Ival, y api.Ival, n int64, drift int) {
	t.Helper()
	want, wanted := moved(x, n, n)
	got, e := Shift(x, n)
	same(t, "Shift", got, e, want, wanted)
	room, refused := rate.Spread(n, drift)
	want, wanted = moved(x, -room, room)
	if refused != api.OK {
		want, wanted = api.Ival{}, api.ErrArg
	}
	got, e = Grow(x, n, drift)
	same(t, "Grow", got, e, want, wanted)
	if isRight(x) != Right(x) {
		t.Errorf("Right(%v)", x)
	}
	both, e := Meet(x, y)
	hull, e2 := Hull(x, y)
	if refuse := !isRight(x) || !isRight(y); refuse != (e == api.ErrArg) || refuse != (e2 == api.ErrArg) {
		t.Errorf("%v, %v: %d, %d", x, y, e, e2)
	} else if !refuse {
		for _, n := range []int64{x.Lo, x.Hi, y.Lo, y.Hi, n} {
			if in := e == api.OK && Holds(both, n); in != (Holds(x, n) && Holds(y, n)) || (Holds(x, n) || Holds(y, n)) && !Holds(hull, n) {
				t.Errorf("%v, %v: %v, %d, %v, %d", x, y, both, e, hull, n)
			}
		}
	}
	l := []api.Ival{x, y, {Lo: n, Hi: n}, {Lo: y.Lo, Hi: x.Hi}, {Lo: x.Lo, Hi: y.Hi}}
	most, count := slowMost(l)
	mostIs(t, l, most, count)
}
