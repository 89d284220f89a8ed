package ftm

import (
	"math"
	"math/big"
	"math/rand"
	"slices"
	"testing"

	"carillon/api"
	"carillon/ival"
)

const end40 = 1 << 40

// far are numbers that are out of range.
var far = []int64{end40 + 1, -end40 - 1, 2 * end40, -2 * end40, math.MaxInt64, math.MinInt64, math.MaxInt64 - 1, math.MinInt64 + 1, 1 << 62, -1 << 62}

// near are numbers that are in range, at its ends among them.
var near = []int64{0, 1, -1, 2, -2, 7, -100, 900, math.MaxInt32, math.MinInt32, 1 << 32, end40 - 1, 1 - end40, end40, -end40}

// manyWrongF are those that are below 0.
var manyWrongF = []int{-1, -2, -end40, math.MinInt32, math.MinInt, math.MinInt + 1}

// wrong are intervals that are not right: Lo above Hi, an end out of range, both.
var wrong = []api.Ival{
	{Lo: 1, Hi: 0}, {Lo: 3, Hi: 1}, {Lo: end40, Hi: -end40}, {Lo: -end40 - 1, Hi: 0}, {Lo: 0, Hi: end40 + 1}, {Lo: -end40 - 1, Hi: end40 + 1},
	{Lo: end40 + 1, Hi: end40 + 1}, {Lo: -end40 - 1, Hi: -end40 - 1}, {Lo: math.MinInt64, Hi: math.MaxInt64}, {Lo: math.MaxInt64, Hi: math.MinInt64},
	{Lo: math.MinInt64, Hi: math.MinInt64}, {Lo: math.MaxInt64, Hi: math.MaxInt64}, {Lo: math.MinInt64, Hi: 0}, {Lo: 0, Hi: math.MaxInt64},
}

// clocks are the numbers of the chapter's example, in its order.
func clocks() []int64 {
	return []int64{-100, 0, 4, 6, 900}
}

// wordsTrim tells the promise's words in another way: a number's place is how many lie ahead of it.
func wordsTrim(l []int64, f int) ([]int64, api.Errno) {
	if f < 0 {
		return nil, api.ErrArg
	}
	for _, n := range l {
		if big.NewInt(n).CmpAbs(big.NewInt(end40)) > 0 {
			return nil, api.ErrArg
		}
	}
	twice := new(big.Int).Mul(big.NewInt(2), big.NewInt(int64(f)))
	if big.NewInt(int64(len(l))).Cmp(twice) <= 0 {
		return nil, api.ErrNone
	}
	placed := make([]int64, len(l))
	for i, n := range l {
		ahead := 0
		for k, m := range l {
			if m < n || m == n && k < i {
				ahead++
			}
		}
		placed[ahead] = n
	}
	var left []int64
	for i, n := range placed {
		if i >= f && i < len(l)-f {
			left = append(left, n)
		}
	}
	return left, api.OK
}

// half is that of a and b, towards 0, with numbers that have no end.
func half(a int64, b int64) int64 {
	sum := new(big.Int).Add(big.NewInt(a), big.NewInt(b))
	return sum.Quo(sum, big.NewInt(2)).Int64()
}

func wordsMiddle(l []int64, f int) (int64, api.Errno) {
	left, e := wordsTrim(l, f)
	if e != api.OK {
		return 0, e
	}
	return half(left[0], left[len(left)-1]), api.OK
}

func wordsPoints(l []api.Ival) []int64 {
	var points []int64
	for _, x := range l {
		if x.Lo >= -end40 && x.Lo <= x.Hi && x.Hi <= end40 {
			points = append(points, half(x.Lo, x.Hi))
		}
	}
	return points
}

func wordsClamp(n int64, most int64) int64 {
	if most < 0 {
		most = 0
	}
	if n > most {
		return most
	}
	if n < 0 && new(big.Int).Neg(big.NewInt(n)).Cmp(big.NewInt(most)) > 0 {
		return -most
	}
	return n
}

func wordsCorrect(l []api.Ival, f int, most int64) (int64, api.Errno) {
	n, e := wordsMiddle(wordsPoints(l), f)
	if e != api.OK {
		return 0, e
	}
	return wordsClamp(n, most), api.OK
}

// is checks Trim and Middle, and that the list that was handed in is as it was.
func is(t *testing.T, l []int64, f int, want []int64, middle int64, wanted api.Errno) {
	t.Helper()
	was := slices.Clone(l)
	if got, e := Trim(l, f); !slices.Equal(got, want) || e != wanted {
		t.Errorf("Trim(%v, %d) = %v, %d, want %v, %d", was, f, got, e, want, wanted)
	}
	if got, e := Middle(l, f); got != middle || e != wanted {
		t.Errorf("Middle(%v, %d) = %d, %d, want %d, %d", was, f, got, e, middle, wanted)
	}
	if !slices.Equal(l, was) {
		t.Errorf("%v became %v", was, l)
	}
}

// asWords holds Trim and Middle against the promise's words.
func asWords(t *testing.T, l []int64, f int) {
	t.Helper()
	want, wanted := wordsTrim(l, f)
	middle, _ := wordsMiddle(l, f)
	is(t, l, f, want, middle, wanted)
}

// corrects checks Points and Correct, and that the list that was handed in is as it was.
func corrects(t *testing.T, l []api.Ival, f int, most int64, points []int64, want int64, wanted api.Errno) {
	t.Helper()
	was := slices.Clone(l)
	if got := Points(l); !slices.Equal(got, points) {
		t.Errorf("Points(%v) = %v, want %v", was, got, points)
	}
	if got, e := Correct(l, f, most); got != want || e != wanted {
		t.Errorf("Correct(%v, %d, %d) = %d, %d, want %d, %d", was, f, most, got, e, want, wanted)
	}
	if !slices.Equal(l, was) {
		t.Errorf("%v became %v", was, l)
	}
}

// correctsAsWords holds Points and Correct against the promises' words.
func correctsAsWords(t *testing.T, l []api.Ival, f int, most int64) {
	t.Helper()
	want, wanted := wordsCorrect(l, f, most)
	corrects(t, l, f, most, wordsPoints(l), want, wanted)
}

// orders goes over all orders of l.
func orders(l []int64, yield func([]int64)) {
	var put func(k int)
	l = slices.Clone(l)
	put = func(k int) {
		if k == len(l) {
			yield(l)
			return
		}
		for i := k; i < len(l); i++ {
			l[k], l[i] = l[i], l[k]
			put(k + 1)
			l[k], l[i] = l[i], l[k]
		}
	}
	put(0)
}

// lists goes over all lists of n numbers from lo to hi.
func lists(n int, lo int64, hi int64, yield func([]int64)) {
	l := make([]int64, n)
	var put func(k int)
	put = func(k int) {
		if k == n {
			yield(l)
			return
		}
		for l[k] = lo; l[k] <= hi; l[k]++ {
			put(k + 1)
		}
	}
	put(0)
}

// points are intervals that hold one number each.
func points(l []int64) []api.Ival {
	var all []api.Ival
	for _, n := range l {
		all = append(all, api.Ival{Lo: n, Hi: n})
	}
	return all
}

// P25.1: the chapter's example, in any order of its numbers.
func TestExample(t *testing.T) {
	orders(clocks(), func(l []int64) { is(t, l, 1, []int64{0, 4, 6}, 3, api.OK) })
}

// P25.1: how many are cut off, down to the last one that is left, and one more.
func TestEachF(t *testing.T) {
	orders(clocks(), func(l []int64) {
		is(t, l, 0, []int64{-100, 0, 4, 6, 900}, 400, api.OK)
		is(t, l, 2, []int64{4}, 4, api.OK)
		is(t, l, 3, nil, 0, api.ErrNone)
	})
	orders([]int64{-100, 0, 5, 900}, func(l []int64) {
		is(t, l, 0, []int64{-100, 0, 5, 900}, 400, api.OK)
		is(t, l, 1, []int64{0, 5}, 2, api.OK)
		is(t, l, 2, nil, 0, api.ErrNone)
	})
}

// P25.1: numbers that are equal are all kept, and cut off one by one.
func TestEqualNumbers(t *testing.T) {
	orders([]int64{3, 3, 3, 8, 8}, func(l []int64) {
		is(t, l, 0, []int64{3, 3, 3, 8, 8}, 5, api.OK)
		is(t, l, 1, []int64{3, 3, 8}, 5, api.OK)
		is(t, l, 2, []int64{3}, 3, api.OK)
	})
	orders([]int64{-9, -9, 9, 9}, func(l []int64) {
		is(t, l, 1, []int64{-9, 9}, 0, api.OK)
	})
	is(t, []int64{7, 7, 7, 7, 7, 7}, 2, []int64{7, 7}, 7, api.OK)
}

// P25.1: halves that go out even and ones that don't, above 0 and below: towards 0, of the least and the greatest alone.
func TestMiddle(t *testing.T) {
	for _, c := range []struct {
		l    []int64
		want int64
	}{
		{[]int64{7}, 7}, {[]int64{-7}, -7}, {[]int64{0}, 0}, {[]int64{0, 1}, 0}, {[]int64{-1, 0}, 0}, {[]int64{1, 2}, 1}, {[]int64{-2, -1}, -1}, {[]int64{-3, -2}, -2}, {[]int64{-3, 2}, 0}, {[]int64{-2, 3}, 0}, {[]int64{-4, 1}, -1}, {[]int64{-1, 4}, 1},
		{[]int64{1, 2, 9}, 5}, {[]int64{1, 8, 9}, 5}, {[]int64{-9, -8, -1}, -5}, {[]int64{0, 0, 0, 0, 9}, 4}, {[]int64{-9, 0, 0, 0, 0}, -4},
		{[]int64{-end40, end40}, 0}, {[]int64{end40, end40}, end40}, {[]int64{-end40, -end40}, -end40}, {[]int64{end40 - 1, end40}, end40 - 1}, {[]int64{-end40, 1 - end40}, 1 - end40}, {[]int64{0, end40}, end40 / 2},
	} {
		orders(c.l, func(l []int64) {
			if got, e := Middle(l, 0); got != c.want || e != api.OK {
				t.Errorf("Middle(%v, 0) = %d, %d, want %d", l, got, e, c.want)
			}
		})
	}
}

// P25.1, P3: of no numbers nothing is left, nil or empty.
func TestNone(t *testing.T) {
	for _, l := range [][]int64{nil, {}} {
		for _, f := range []int{0, 1, 2, end40, math.MaxInt32, math.MaxInt - 1, math.MaxInt} {
			is(t, l, f, nil, 0, api.ErrNone)
		}
		for _, f := range manyWrongF {
			is(t, l, f, nil, 0, api.ErrArg)
		}
	}
}

// P25.1, P6: with 2 f numbers and fewer none is left, with one more there is; however great f is, and where 2 f would wrap.
func TestTwiceF(t *testing.T) {
	for n := range 30 {
		var l []int64
		for i := range n {
			l = append(l, int64(i*7%30))
		}
		for f := range 33 {
			_, e := Trim(l, f)
			if want := n <= 2*f; want != (e == api.ErrNone) || !want && e != api.OK {
				t.Errorf("of %d: Trim(%v, %d): %d", n, l, f, e)
			}
			asWords(t, l, f)
		}
		for _, f := range []int{math.MaxInt32, 1 << 31, 1 << 32, 1 << 61, 1<<62 - 1, 1 << 62, 1<<62 + 1, math.MaxInt - 1, math.MaxInt} {
			is(t, l, f, nil, 0, api.ErrNone)
		}
	}
}

// P25.1: an f below 0 is refused, whatever the numbers are.
func TestWrongF(t *testing.T) {
	for _, f := range manyWrongF {
		is(t, clocks(), f, nil, 0, api.ErrArg)
		is(t, near, f, nil, 0, api.ErrArg)
		is(t, far, f, nil, 0, api.ErrArg)
		corrects(t, points(clocks()), f, end40, clocks(), 0, api.ErrArg)
		corrects(t, nil, f, end40, nil, 0, api.ErrArg)
		corrects(t, wrong, f, end40, nil, 0, api.ErrArg)
	}
}

// P25.1: a number at an end of the range counts, one beyond it is refused, at any place, even if it would be cut off.
func TestFarNumbers(t *testing.T) {
	for _, n := range near {
		is(t, []int64{n}, 0, []int64{n}, n, api.OK)
		for place := range 6 {
			asWords(t, slices.Insert(clocks(), place, n), 1)
		}
	}
	is(t, []int64{end40, 0, -end40}, 0, []int64{-end40, 0, end40}, 0, api.OK)
	for _, n := range far {
		is(t, []int64{n}, 0, nil, 0, api.ErrArg)
		for place := range 6 {
			for f := range 3 {
				is(t, slices.Insert(clocks(), place, n), f, nil, 0, api.ErrArg)
			}
		}
	}
}

// P25.1, P2: where a number is out of range and there are too few, too, the answer is ErrArg.
func TestArgAheadOfNone(t *testing.T) {
	for _, n := range far {
		for _, f := range []int{1, 2, 3, 1 << 62, math.MaxInt} {
			is(t, []int64{n}, f, nil, 0, api.ErrArg)
			is(t, []int64{0, n}, f, nil, 0, api.ErrArg)
		}
	}
}

// P25.1: all short lists of few numbers.
func TestSmallLists(t *testing.T) {
	for n := range 6 {
		lists(n, -2, 2, func(l []int64) {
			for f := -1; f <= n; f++ {
				asWords(t, l, f)
			}
		})
	}
	lists(7, 0, 2, func(l []int64) { asWords(t, l, 2) })
}

// P25.1: longer lists, of few numbers and of many, told in another way.
func TestLongLists(t *testing.T) {
	chance := rand.New(rand.NewSource(25))
	for n := range 130 {
		for _, width := range []int64{1, 2, 5, 40, 1 << 20, end40} {
			var l []int64
			for range n {
				l = append(l, chance.Int63n(2*width+1)-width)
			}
			asWords(t, l, chance.Intn(n/2+1))
		}
	}
}

// P25.1, P1: a very long list ends in good time, in whatever order it comes.
func TestVeryLongLists(t *testing.T) {
	const n = 400001
	for _, number := range []func(i int) int64{
		func(i int) int64 { return int64(i) },
		func(i int) int64 { return int64(n - 1 - i) },
		func(i int) int64 { return int64(i) * 7919 % n },
		func(i int) int64 { return int64(min(2*i, 2*(n-1-i)+1)) },
	} {
		l := make([]int64, n)
		for i := range l {
			l[i] = number(i)
		}
		left, e := Trim(l, 100000)
		if len(left) != 200001 || e != api.OK {
			t.Fatalf("%d left, %d", len(left), e)
		}
		for i, m := range left {
			if m != int64(100000+i) {
				t.Fatalf("at %d: %d", i, m)
			}
		}
		if m, e := Middle(l, n/2); m != n/2 || e != api.OK {
			t.Errorf("Middle = %d, %d", m, e)
		}
	}
	if left, e := Trim(make([]int64, n), n/2); !slices.Equal(left, []int64{0}) || e != api.OK {
		t.Errorf("of zeroes: %v, %d", left, e)
	}
}

// P25.1: the middles of those that are right, in the order of the list.
func TestPoints(t *testing.T) {
	for _, c := range []struct {
		l    []api.Ival
		want []int64
	}{
		{nil, nil}, {[]api.Ival{}, nil}, {wrong, nil}, {[]api.Ival{{}}, []int64{0}},
		{[]api.Ival{{Lo: -10, Hi: 20}, {Lo: 3, Hi: 1}, {Lo: 30, Hi: 31}}, []int64{5, 30}},
		{[]api.Ival{{Lo: 30, Hi: 31}, {Lo: -10, Hi: 20}}, []int64{30, 5}},
		{[]api.Ival{{Lo: 9, Hi: 9}, {Lo: 1, Hi: 1}, {Lo: 5, Hi: 5}, {Lo: 1, Hi: 1}}, []int64{9, 1, 5, 1}},
		{[]api.Ival{{Lo: -3, Hi: -2}, {Lo: -1, Hi: 0}, {Lo: 0, Hi: 1}, {Lo: 2, Hi: 3}, {Lo: -4, Hi: 1}}, []int64{-2, 0, 0, 2, -1}},
		{[]api.Ival{{Lo: -end40, Hi: end40}, {Lo: end40, Hi: end40}, {Lo: -end40, Hi: -end40}, {Lo: -end40, Hi: 1 - end40}}, []int64{0, end40, -end40, 1 - end40}},
	} {
		was := slices.Clone(c.l)
		if got := Points(c.l); !slices.Equal(got, c.want) || !slices.Equal(c.l, was) {
			t.Errorf("Points(%v) = %v, want %v; %v", was, got, c.want, c.l)
		}
	}
	for _, x := range wrong {
		for place := range 3 {
			l := slices.Insert([]api.Ival{{Lo: 8, Hi: 9}, {Lo: 2, Hi: 2}}, place, x)
			if got := Points(l); !slices.Equal(got, []int64{8, 2}) {
				t.Errorf("Points(%v) = %v", l, got)
			}
		}
	}
}

// P25.1: Points holds to ival.Middle and ival.Right.
func TestPointsByIval(t *testing.T) {
	for _, lo := range slices.Concat(near, far) {
		for _, hi := range slices.Concat(near, far) {
			x := api.Ival{Lo: lo, Hi: hi}
			middle, e := ival.Middle(x)
			got := Points([]api.Ival{x})
			if ival.Right(x) != (len(got) == 1) || ival.Right(x) != (e == api.OK) || len(got) == 1 && got[0] != middle {
				t.Errorf("Points of %v: %v; %d, %d", x, got, middle, e)
			}
		}
	}
}

// P25.1, P6: within most, at it, one beyond it, both ways; most of 0, below 0, at the ends of the type.
func TestClamp(t *testing.T) {
	for _, c := range []struct{ n, most, want int64 }{
		{-9, 4, -4}, {3, 4, 3}, {9, -4, 0}, {4, 4, 4}, {5, 4, 4}, {-4, 4, -4}, {-5, 4, -4}, {-3, 4, -3}, {0, 4, 0},
		{0, 0, 0}, {1, 0, 0}, {-1, 0, 0}, {9, 0, 0}, {-9, 0, 0}, {0, -1, 0}, {1, -1, 0}, {-1, -1, 0}, {-9, -4, 0}, {-3, -4, 0}, {4, -4, 0}, {-4, -4, 0},
		{math.MaxInt64, math.MaxInt64, math.MaxInt64}, {math.MinInt64, math.MaxInt64, -math.MaxInt64}, {math.MinInt64 + 1, math.MaxInt64, math.MinInt64 + 1}, {math.MinInt64, math.MaxInt64 - 1, 1 - math.MaxInt64},
		{math.MaxInt64, math.MinInt64, 0}, {math.MinInt64, math.MinInt64, 0}, {5, math.MinInt64, 0}, {-5, math.MinInt64, 0}, {0, math.MinInt64, 0}, {math.MaxInt64, math.MinInt64 + 1, 0},
		{math.MaxInt64, 0, 0}, {math.MinInt64, 0, 0}, {math.MaxInt64, 7, 7}, {math.MinInt64, 7, -7}, {end40, end40, end40}, {-end40, end40, -end40}, {end40 + 1, end40, end40}, {5, math.MaxInt64, 5}, {-5, math.MaxInt64, -5},
	} {
		if got := Clamp(c.n, c.most); got != c.want {
			t.Errorf("Clamp(%d, %d) = %d, want %d", c.n, c.most, got, c.want)
		}
	}
	for _, n := range slices.Concat(near, far) {
		for _, most := range slices.Concat(near, far) {
			if got, want := Clamp(n, most), wordsClamp(n, most); got != want {
				t.Errorf("Clamp(%d, %d) = %d, want %d", n, most, got, want)
			}
		}
	}
}

// P25.2: the middles' middle, within most, at it, beyond it, both ways; wrong intervals don't count.
func TestCorrect(t *testing.T) {
	l := []api.Ival{{Lo: -10, Hi: 20}, {Lo: 3, Hi: 1}, {Lo: 30, Hi: 31}}
	less := []api.Ival{{Lo: -31, Hi: -30}, {Lo: 3, Hi: 1}, {Lo: -20, Hi: 10}}
	for _, c := range []struct {
		most, want int64
	}{
		{12, 12}, {16, 16}, {17, 17}, {18, 17}, {end40, 17}, {math.MaxInt64, 17}, {1, 1}, {0, 0}, {-1, 0}, {-17, 0}, {-18, 0}, {math.MinInt64, 0},
	} {
		corrects(t, l, 0, c.most, []int64{5, 30}, c.want, api.OK)
		corrects(t, less, 0, c.most, []int64{-30, -5}, -c.want, api.OK)
	}
	corrects(t, l, 1, 12, []int64{5, 30}, 0, api.ErrNone)
	corrects(t, nil, 0, 12, nil, 0, api.ErrNone)
	corrects(t, []api.Ival{}, 0, 12, nil, 0, api.ErrNone)
	corrects(t, wrong, 0, 12, nil, 0, api.ErrNone)
	corrects(t, wrong, math.MaxInt, 12, nil, 0, api.ErrNone)
	corrects(t, points(clocks()), 1, end40, clocks(), 3, api.OK)
	corrects(t, points(clocks()), 1, 2, clocks(), 2, api.OK)
	corrects(t, points(clocks()), 2, 2, clocks(), 2, api.OK)
	corrects(t, points(clocks()), 3, 2, clocks(), 0, api.ErrNone)
	corrects(t, []api.Ival{{Lo: -end40, Hi: -end40}}, 0, end40, []int64{-end40}, -end40, api.OK)
	corrects(t, []api.Ival{{Lo: end40, Hi: end40}}, 0, end40-1, []int64{end40}, end40-1, api.OK)
}

// P25.2: how many are right decides, not how long the list is.
func TestCorrectCountsRightOnes(t *testing.T) {
	l := slices.Concat(wrong, []api.Ival{{Lo: 1, Hi: 3}, {Lo: 4, Hi: 6}}, wrong)
	corrects(t, l, 1, end40, []int64{2, 5}, 0, api.ErrNone)
	corrects(t, append(l, api.Ival{Lo: 9, Hi: 10}), 1, end40, []int64{2, 5, 9}, 5, api.OK)
	corrects(t, l, 0, end40, []int64{2, 5}, 3, api.OK)
}

// P25.2: the middle of the intervals' middles, not that of their ends, which are cut off by their middles.
func TestCorrectByMiddles(t *testing.T) {
	l := []api.Ival{{Lo: -1000, Hi: 1010}, {Lo: 0, Hi: 2}, {Lo: 8, Hi: 8}, {Lo: -40, Hi: 20}}
	corrects(t, l, 0, end40, []int64{5, 1, 8, -10}, -1, api.OK)
	corrects(t, l, 1, end40, []int64{5, 1, 8, -10}, 3, api.OK)
}

// P25.2: any intervals, told in another way.
func TestCorrectByChance(t *testing.T) {
	chance := rand.New(rand.NewSource(252))
	for n := range 60 {
		for _, width := range []int64{2, 9, 1 << 20, end40 + 2} {
			var l []api.Ival
			for range n {
				l = append(l, api.Ival{Lo: chance.Int63n(2*width+1) - width, Hi: chance.Int63n(2*width+1) - width})
			}
			correctsAsWords(t, l, chance.Intn(n/4+2)-1, chance.Int63n(width+3)-2)
		}
	}
}

// bounds are the least and the greatest of the numbers of l that are not among those that bits tells.
func bounds(l []int64, bits int) (int64, int64) {
	lo, hi := int64(math.MaxInt64), int64(math.MinInt64)
	for i, n := range l {
		if bits>>i&1 == 0 {
			lo, hi = min(lo, n), max(hi, n)
		}
	}
	return lo, hi
}

// lies checks that the middle lies between those that are left if any f of the numbers are thought away.
func lies(t *testing.T, l []int64, f int) {
	t.Helper()
	middle, e := Middle(l, f)
	if e != api.OK {
		t.Fatalf("Middle(%v, %d): %d", l, f, e)
	}
	for bits := range 1 << len(l) {
		if count(bits) != f {
			continue
		}
		if lo, hi := bounds(l, bits); middle < lo || middle > hi {
			t.Errorf("Middle(%v, %d) = %d, but the others are from %d to %d", l, f, middle, lo, hi)
		}
	}
}

func count(bits int) int {
	n := 0
	for ; bits > 0; bits /= 2 {
		n += bits % 2
	}
	return n
}

// P25.3: whichever f of the numbers are thought away, in all short lists.
func TestWhateverFAre(t *testing.T) {
	lists(3, -3, 3, func(l []int64) { lies(t, l, 1) })
	lists(4, -2, 2, func(l []int64) { lies(t, l, 1) })
	lists(5, 0, 3, func(l []int64) { lies(t, l, 2) })
	lists(7, 0, 1, func(l []int64) { lies(t, l, 3) })
}

// P25.3: of the others some stay as they are, whatever f numbers are put beside them, at whatever places, with whatever most.
func TestWhateverIsPut(t *testing.T) {
	chance := rand.New(rand.NewSource(253))
	for range 3000 {
		f := chance.Intn(4)
		width := []int64{1, 50, end40}[chance.Intn(3)]
		var l []int64
		for range f + 1 + chance.Intn(5) {
			l = append(l, chance.Int63n(2*width+1)-width)
		}
		lo, hi := bounds(l, 0)
		for range f {
			l = slices.Insert(l, chance.Intn(len(l)+1), near[chance.Intn(len(near))])
		}
		if middle, e := Middle(l, f); middle < lo || middle > hi || e != api.OK {
			t.Errorf("Middle(%v, %d) = %d, %d, but the others are from %d to %d", l, f, middle, e, lo, hi)
		}
		if n, e := Correct(points(l), f, end40); n < lo || n > hi || e != api.OK {
			t.Errorf("Correct(%v, %d) = %d, %d, but the others are from %d to %d", l, f, n, e, lo, hi)
		}
	}
}

// P4: answers are new memory: what is done to them, or to the list, the other doesn't see.
func TestNewMemory(t *testing.T) {
	for n := range 6 {
		l := clocks()[:n]
		for f := 0; n > 2*f; f++ {
			left, _ := Trim(l, f)
			want := slices.Clone(left)
			for i := range left {
				left[i] = 77
			}
			left = append(left, 78, 79, 80)
			if len(left) != n-2*f+3 || !slices.Equal(l, clocks()[:n]) {
				t.Errorf("of %d: %v", n, l)
			}
			left, _ = Trim(l, f)
			again, _ := Trim(l, f)
			clear(l)
			again[0] = 77
			if !slices.Equal(left, want) {
				t.Errorf("of %d: %v, want %v", n, left, want)
			}
			copy(l, clocks())
		}
	}
	l := points(clocks())
	first, second := Points(l), Points(l)
	clear(l)
	first[0] = 77
	if !slices.Equal(second, clocks()) {
		t.Errorf("%v", second)
	}
}

// P4: what lies behind a list in its memory is as it was, and counts for nothing.
func TestKeepsOff(t *testing.T) {
	memory := []int64{6, 900, 0, -100, 4, 77, -78, end40 + 1}
	was := slices.Clone(memory)
	is(t, memory[:5], 1, []int64{0, 4, 6}, 3, api.OK)
	if !slices.Equal(memory, was) {
		t.Errorf("%v", memory)
	}
	ivals := points(memory)
	corrects(t, ivals[:5], 1, end40, memory[:5], 3, api.OK)
	if !slices.Equal(ivals, points(was)) {
		t.Errorf("%v", ivals)
	}
}

// P5: what is answered hangs on nothing that was asked ahead of it.
func TestAnswersTheSame(t *testing.T) {
	for range 3 {
		is(t, clocks(), 1, []int64{0, 4, 6}, 3, api.OK)
		is(t, clocks(), -1, nil, 0, api.ErrArg)
		is(t, far, 0, nil, 0, api.ErrArg)
		corrects(t, points(clocks()), 1, 2, clocks(), 2, api.OK)
		corrects(t, nil, 1, 2, nil, 0, api.ErrNone)
	}
}

// P25.1, P25.2, P25.3: any numbers that a fuzzer wants.
func FuzzAll(f *testing.F) {
	f.Add(int64(-100), int64(0), int64(4), int64(6), int64(900), 1, int64(12))
	f.Add(int64(end40), int64(-end40), int64(end40+1), int64(0), int64(0), 2, int64(end40))
	f.Add(int64(math.MinInt64), int64(math.MaxInt64), int64(0), int64(-1), int64(1), math.MaxInt, int64(math.MinInt64))
	f.Fuzz(func(t *testing.T, a int64, b int64, c int64, d int64, e int64, cut int, most int64) {
		l := []int64{a, b, c, d, e}
		checkAll(t, l, cut, most)
		for i := range l {
			l[i] %= end40 + 2
		}
		checkAll(t, l, cut, most)
		for i := range l {
			l[i] %= end40
		}
		lies(t, l, 0)
		lies(t, l, 1)
		lies(t, l, 2)
		checkAll(t, l, cut%4, most%(1<<42))
	})
}

func checkAll(t *testing.T, l []int64, f int, most int64) {
	t.Helper()
	for n := range len(l) + 1 {
		asWords(t, l[:n], f)
	}
	correctsAsWords(t, points(l), f, most)
	correctsAsWords(t, []api.Ival{{Lo: l[0], Hi: l[1]}, {Lo: l[2], Hi: l[3]}, {Lo: l[1], Hi: l[4]}, {Lo: l[3], Hi: l[0]}, {Lo: l[4], Hi: l[4]}}, f, most)
	if got, want := Clamp(l[0], most), wordsClamp(l[0], most); got != want {
		t.Errorf("Clamp(%d, %d) = %d, want %d", l[0], most, got, want)
	}
}
