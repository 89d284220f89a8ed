package rate

import (
	"math"
	"math/big"
	"testing"

	"carillon/api"
)

// answer is what all calls answer of one a and d.
type answer struct {
	most, least, spread, fewest, longest int64
}

// tells checks that no call refuses, and tells what they answer.
func tells(t *testing.T, a int64, d int) answer {
	t.Helper()
	most, e1 := Most(a, d)
	least, e2 := Least(a, d)
	spread, e3 := Spread(a, d)
	fewest, longest, e4 := Beats(a, d)
	for _, e := range []api.Errno{e1, e2, e3, e4} {
		if e != api.OK {
			t.Fatalf("%d, %d: %v", a, d, e)
		}
	}
	return answer{most, least, spread, fewest, longest}
}

// is checks all calls where they are no error.
func is(t *testing.T, a int64, d int, want answer) {
	t.Helper()
	if got := tells(t, a, d); got != want {
		t.Errorf("%d, %d: %v, want %v", a, d, got, want)
	}
}

// refuses checks that all calls answer ErrArg, and zero values beside it.
func refuses(t *testing.T, a int64, d int) {
	t.Helper()
	if n, e := Most(a, d); n != 0 || e != api.ErrArg {
		t.Errorf("Most(%d, %d) = %d, %v", a, d, n, e)
	}
	if n, e := Least(a, d); n != 0 || e != api.ErrArg {
		t.Errorf("Least(%d, %d) = %d, %v", a, d, n, e)
	}
	if n, e := Spread(a, d); n != 0 || e != api.ErrArg {
		t.Errorf("Spread(%d, %d) = %d, %v", a, d, n, e)
	}
	if n, m, e := Beats(a, d); n != 0 || m != 0 || e != api.ErrArg {
		t.Errorf("Beats(%d, %d) = %d, %d, %v", a, d, n, m, e)
	}
}

// floor and ceil are a times by, divided, in another way: with numbers that have no end.
func floor(a int64, by int64, over int64) int64 {
	n := new(big.Int).Mul(big.NewInt(a), big.NewInt(by))
	return n.Div(n, big.NewInt(over)).Int64()
}

func ceil(a int64, by int64, over int64) int64 {
	return -floor(-a, by, over)
}

// other is what the calls must answer, told in another way.
func other(a int64, d int) answer {
	fast, slow := 100+int64(d), 100-int64(d)
	most, least := floor(a, fast, slow), ceil(a, slow, fast)
	spread := most - a
	if a-least > spread {
		spread = a - least
	}
	return answer{most, least, spread, ceil(a, 1, fast), floor(a, 1, slow)}
}

// P7.1: the chapter's examples, and DOC.md's fourth.
func TestExamples(t *testing.T) {
	if n, e := Most(200, 3); n != 212 || e != api.OK {
		t.Errorf("Most(200, 3) = %d, %v", n, e)
	}
	if n, e := Least(200, 3); n != 189 || e != api.OK {
		t.Errorf("Least(200, 3) = %d, %v", n, e)
	}
}

// P7.1: quotients that go out even and ones that don't, told by hand.
func TestByHand(t *testing.T) {
	for _, x := range []struct {
		a    int64
		d    int
		want answer
	}{
		{97, 3, answer{103, 92, 6, 1, 1}},  // Most goes out even, the most beats, too
		{103, 3, answer{109, 97, 6, 1, 1}}, // Least does, the least beats, too
		{194, 3, answer{206, 183, 12, 2, 2}},
		{206, 3, answer{218, 194, 12, 2, 2}},
		{207, 3, answer{219, 195, 12, 3, 2}}, // one more than two beats give
		{193, 3, answer{204, 182, 11, 2, 1}}, // one less than two beats give
		{104, 3, answer{110, 98, 6, 2, 1}},   // nothing goes out even
		{412, 3, answer{437, 388, 25, 4, 4}},
		{990, 10, answer{1210, 810, 220, 9, 11}},
		{1000, 10, answer{1222, 819, 222, 10, 11}},
		{51, 49, answer{149, 18, 98, 1, 1}},
		{149, 49, answer{435, 51, 286, 1, 2}},
		{150, 49, answer{438, 52, 288, 2, 2}},
		{100, 49, answer{292, 35, 192, 1, 1}},
		{51 * 149, 49, answer{149 * 149, 51 * 51, 149*149 - 51*149, 51, 149}}, // all go out even
	} {
		is(t, x.a, x.d, x.want)
	}
}

// P7.1: without drift both go on by the same.
func TestNoDrift(t *testing.T) {
	for _, a := range []int64{0, 1, 99, 100, 101, 200, api.MaxTime - 1, api.MaxTime} {
		is(t, a, 0, answer{a, a, 0, (a + 99) / 100, a / 100})
	}
}

// P7.1: a of 0 and of 1, with every drift.
func TestLeastNumbers(t *testing.T) {
	for d := range 50 {
		is(t, 0, d, answer{})
	}
	for d := range 50 {
		want := answer{1, 1, 0, 1, 0}
		if d >= 34 { // from there on 100 and d is twice 100 less d
			want.most, want.spread = 2, 1
		}
		is(t, 1, d, want)
	}
}

// P7.1, P6: numbers at MaxTime, and about 32 bits, are exact.
func TestGreatNumbers(t *testing.T) {
	for _, x := range []struct {
		a    int64
		d    int
		want answer
	}{
		{api.MaxTime, 0, answer{1099511627776, 1099511627776, 0, 10995116278, 10995116277}},
		{api.MaxTime, 1, answer{1121723983892, 1077739120296, 22212356116, 10886253741, 11106178058}},
		{api.MaxTime, 3, answer{1167522656298, 1035462406741, 68011028522, 10674870173, 11335171420}},
		{api.MaxTime, 49, answer{3212298677227, 376342906152, 2112787049451, 7379272670, 21559051525}},
		{api.MaxTime - 1, 49, answer{3212298677225, 376342906152, 2112787049450, 7379272670, 21559051525}},
		{1 << 31, 49, answer{6274020853, 735044739, 4126537205, 14412642, 42107522}},
		{1 << 32, 49, answer{12548041707, 1470089478, 8253074411, 28825284, 84215045}},
	} {
		is(t, x.a, x.d, x.want)
	}
	for d := range 50 {
		for a := int64(api.MaxTime - 300); a <= api.MaxTime; a++ {
			is(t, a, d, other(a, d))
		}
	}
}

// P7.1: a times (Beat + d) at MaxTime, one less and one more: that product has no limit of its own, nor has what is answered.
func TestProductAtMaxTime(t *testing.T) {
	is(t, 1<<33-1, 28, answer{15270994828, 4831838208, 6681060237, 67108864, 119304647})
	is(t, 1<<33, 28, answer{15270994830, 4831838208, 6681060238, 67108864, 119304647})
	is(t, 1<<33+1, 28, answer{15270994832, 4831838209, 6681060239, 67108865, 119304647})
	for d := range 50 {
		for _, by := range []int64{100 + int64(d), 100 - int64(d)} {
			for a := int64(api.MaxTime)/by - 2; a <= api.MaxTime/by+2; a++ {
				is(t, a, d, other(a, d))
			}
		}
	}
}

// P7.1: every drift, with every a of up to many beats.
func TestAll(t *testing.T) {
	for d := range 50 {
		for a := range int64(4000) {
			is(t, a, d, other(a, d))
		}
		for a := int64(1); a < api.MaxTime; a += a/3 + 1 {
			is(t, a, d, other(a, d))
		}
	}
}

// P7.1: no number of beats lies between the least and the most, just where none of them gives a.
func TestBeats(t *testing.T) {
	for d := range 50 {
		slow, fast := 100-int64(d), 100+int64(d)
		for a := range int64(2000) {
			fewest, longest, e := Beats(a, d)
			if e != api.OK {
				t.Fatalf("Beats(%d, %d): %v", a, d, e)
			}
			for n := range int64(45) {
				if may := n*slow <= a && a <= n*fast; may != (fewest <= n && n <= longest) {
					t.Fatalf("Beats(%d, %d) = %d, %d, but %d beats: %v", a, d, fewest, longest, n, may)
				}
			}
		}
	}
}

// P7.1: a that no whole number of beats gives is no error, each quotient is told as it is.
func TestNoBeats(t *testing.T) {
	for _, x := range []struct {
		a               int64
		d               int
		fewest, longest int64
	}{
		{1, 0, 1, 0}, {99, 0, 1, 0}, {101, 0, 2, 1}, {1, 49, 1, 0}, {50, 49, 1, 0},
		{96, 3, 1, 0}, {104, 3, 2, 1}, {193, 3, 2, 1}, {207, 3, 3, 2}, {api.MaxTime, 0, 10995116278, 10995116277},
	} {
		if n, m, e := Beats(x.a, x.d); n != x.fewest || m != x.longest || e != api.OK {
			t.Errorf("Beats(%d, %d) = %d, %d, %v", x.a, x.d, n, m, e)
		}
	}
}

// P7.1: Spread where Most less a is the greater, and where a less Least is as great.
func TestSpread(t *testing.T) {
	for _, x := range []struct {
		a                  int64
		d                  int
		above, below, want int64
	}{
		{200, 3, 12, 11, 12}, {97, 3, 6, 5, 6}, {17, 3, 1, 0, 1}, {100, 49, 192, 65, 192}, {api.MaxTime, 1, 22212356116, 21772507480, 22212356116},
		{104, 3, 6, 6, 6}, {103, 3, 6, 6, 6}, {206, 3, 12, 12, 12}, {50, 1, 1, 0, 1}, {51, 1, 1, 1, 1}, {0, 49, 0, 0, 0}, {1, 3, 0, 0, 0},
	} {
		got := tells(t, x.a, x.d)
		if got.most-x.a != x.above || x.a-got.least != x.below || got.spread != x.want {
			t.Errorf("%d, %d: %v, want %d above, %d below", x.a, x.d, got, x.above, x.below)
		}
	}
}

// P7.1: a less Least is never the greater one alone, as 2 d parts of Beat - d are no fewer than of Beat + d; the spread holds both.
func TestSpreadHoldsBoth(t *testing.T) {
	for d := range 50 {
		for a := int64(0); a <= api.MaxTime; a += a/50 + 1 {
			got := tells(t, a, d)
			above, below := got.most-a, a-got.least
			if above < below || below < 0 || got.spread < above || got.spread < below || got.spread != above && got.spread != below {
				t.Fatalf("%d, %d: %v", a, d, got)
			}
		}
	}
}

// P7.1, P1, P6: a at its ends is told, one beyond them and the ends of its type are refused, with every drift.
func TestRefusesA(t *testing.T) {
	for d := range 50 {
		tells(t, 0, d)
		tells(t, api.MaxTime, d)
		for _, a := range []int64{-1, -2, -100, -api.MaxTime, math.MinInt32, math.MinInt64, math.MinInt64 + 1, api.MaxTime + 1, api.MaxTime + 2, 1 << 41, 1 << 62, math.MaxInt64 - 1, math.MaxInt64} {
			refuses(t, a, d)
		}
	}
}

// P7.1, P1: d of 0 and of 49 is told, of 50 and below 0 refused, with every a that is right.
func TestRefusesD(t *testing.T) {
	for _, a := range []int64{0, 1, 99, 100, 200, 1 << 31, api.MaxTime - 1, api.MaxTime} {
		tells(t, a, 0)
		tells(t, a, 49)
		for _, d := range []int{-1, -2, -49, -50, -99, -100, -101, 50, 51, 99, 100, 101, 256, 1<<16 + 3, math.MinInt32, math.MaxInt32, math.MinInt, math.MinInt + 3, math.MaxInt - 100, math.MaxInt} {
			refuses(t, a, d)
		}
	}
}

// P7.1: both wrong is one error.
func TestRefusesBoth(t *testing.T) {
	for _, a := range []int64{-1, math.MinInt64, api.MaxTime + 1, math.MaxInt64} {
		for _, d := range []int{-1, 50, -100, 100, math.MinInt, math.MaxInt} {
			refuses(t, a, d)
		}
	}
}

// clock is what a clock with drift d goes on by in some beat: each by another number, all of them from the slowest to the fastest, in the order that seed gives.
func clock(d int, seed uint32) func() int64 {
	return func() int64 {
		seed = seed*1664525 + 1013904223
		return 100 + int64(seed>>8)%(2*int64(d)+1) - int64(d)
	}
}

// near checks that what each of two clocks went on by lies from Least to Most of the other's, and within its spread.
func near(t *testing.T, one int64, two int64, d int, beats int64) {
	t.Helper()
	for _, x := range [][2]int64{{one, two}, {two, one}} {
		got := tells(t, x[0], d)
		if x[1] < got.least || x[1] > got.most {
			t.Fatalf("with drift %d, in %d beats, by %d and %d: %v", d, beats, x[0], x[1], got)
		}
		if x[1]-x[0] > got.spread || x[0]-x[1] > got.spread {
			t.Fatalf("with drift %d, in %d beats, %d and %d are further apart: %v", d, beats, x[0], x[1], got)
		}
		if beats < got.fewest || beats > got.longest {
			t.Fatalf("with drift %d, %d in %d beats: %v", d, x[0], beats, got)
		}
	}
}

// P7.2: two clocks that go on in the same beats, each beat by another number.
func TestTwoClocks(t *testing.T) {
	for d := range 50 {
		for seed := range uint32(8) {
			first, second := clock(d, seed), clock(d, seed+77)
			var one, two int64
			for beats := int64(0); beats < 400; beats++ {
				near(t, one, two, d, beats)
				one += first()
				two += second()
			}
		}
	}
}

// P7.2: one as slow as may be, one as fast, and then the other way round; the farthest that they may be apart is just what is told.
func TestSlowestAndFastest(t *testing.T) {
	for d := range 50 {
		slow, fast := 100-int64(d), 100+int64(d)
		var one, two int64
		for beats := int64(0); beats < 300; beats++ {
			near(t, one, two, d, beats)
			if got := tells(t, one, d); got.most != two || got.longest != beats {
				t.Fatalf("with drift %d, in %d beats, by %d: %v", d, beats, one, got)
			}
			if got := tells(t, two, d); got.least != one || got.fewest != beats {
				t.Fatalf("with drift %d, in %d beats, by %d: %v", d, beats, two, got)
			}
			one, two = one+slow, two+fast
		}
		for beats := int64(300); beats < 700; beats++ {
			near(t, one, two, d, beats)
			one, two = one+fast, two+slow
		}
	}
}

// P7.2: in few beats, all that two clocks may go on by.
func TestEveryTwo(t *testing.T) {
	for _, d := range []int{0, 1, 3, 33, 34, 49} {
		for beats := range int64(4) {
			slow, fast := beats*(100-int64(d)), beats*(100+int64(d))
			for one := slow; one <= fast; one++ {
				got := tells(t, one, d)
				if got.least > slow || got.most < fast {
					t.Fatalf("with drift %d, in %d beats, by %d: %v", d, beats, one, got)
				}
			}
		}
	}
}

// P7.2: in as many beats as there may be at all.
func TestManyBeats(t *testing.T) {
	for d := range 50 {
		slow, fast := 100-int64(d), 100+int64(d)
		beats := api.MaxTime / fast
		for _, one := range []int64{beats * slow, beats*slow + 1, beats * 100, beats*fast - 1, beats * fast} {
			for _, two := range []int64{beats * slow, beats*slow + 1, beats * 100, beats*fast - 1, beats * fast} {
				if d > 0 || one == two && one == beats*100 {
					near(t, one, two, d, beats)
				}
			}
		}
	}
}

// P5: what is answered hangs on nothing that was asked ahead of it.
func TestAnswersTheSame(t *testing.T) {
	for range 3 {
		is(t, 200, 3, answer{212, 189, 12, 2, 2})
		refuses(t, -1, 3)
		is(t, 104, 3, answer{110, 98, 6, 2, 1})
		refuses(t, 104, 50)
		is(t, 0, 49, answer{})
	}
}

// P7.1: the generic quotient is of other numbers, too.
func TestQuotient(t *testing.T) {
	for a := range 50 {
		for by := 1; by < 60; by++ {
			below, above := quotient(a, by, down), quotient(a, by, up)
			if below*by > a || (below+1)*by <= a || above*by < a || (above-1)*by >= a {
				t.Errorf("%d by %d: %d, %d", a, by, below, above)
			}
		}
	}
}

// P7.1, P7.2: any numbers that a fuzzer wants.
func FuzzAll(f *testing.F) {
	f.Add(int64(200), 3)
	f.Add(int64(api.MaxTime), 49)
	f.Add(int64(api.MaxTime+1), 50)
	f.Add(int64(math.MinInt64), math.MinInt)
	f.Fuzz(func(t *testing.T, a int64, d int) {
		if d < 0 || d > 49 || a < 0 || a > 1<<40 {
			refuses(t, a, d)
		} else {
			is(t, a, d, other(a, d))
		}
		a, d = a&(1<<40-1), int(uint(d)%50)
		is(t, a, d, other(a, d))
	})
}
