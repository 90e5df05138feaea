package mill_test

import (
	"math"
	"slices"
	"testing"

	"middling/api"
	"middling/core"
	"middling/mill"
)

// only wants one lot of some bales, all as long and as strong.
func only(size int, l ...api.Bale) api.Mill {
	m := api.Mill{Lots: 1, Size: size}
	for _, b := range l {
		m.Cottons = append(m.Cottons, api.Cotton{Bale: b, Length: 30, Strength: 80})
	}
	return m
}

// P9.2, P9.12: only bales that surely are plain are fit, with the chapter's example.
func TestFit(t *testing.T) {
	three := showing(6, span(3, 3), span(7, 7), span(3, 3))
	if k, e := core.Kind(three, api.KindFalse); k != api.KnownYes || e != api.OK {
		t.Error(k, e)
	}
	for i, x := range []struct {
		m    api.Mill
		want []int
	}{
		{example(2), ints(1, 2, 3, 4, 5)}, {example(3), ints(1, 2, 3, 4, 5)}, {full(), ints(1, 2, 3, 4, 5, 6, 7)}, {line(1, 2), nil},
		// Of one layer each bale is plain; of more that are not drawn it is open.
		{only(2, blank(1, 1), blank(2, 2), blank(3, 5)), ints(1)},
		// Not surely, or surely not.
		{only(2, two(1), showing(2, span(3, 3), span(4, 4)), showing(3, span(3, 4), span(3, 4)), showing(4, span(3, 3), span(4, 5)), showing(5, span(3, 3), span(5, 5)), three, showing(7, span(3, 3), span(6, 6), span(9, 9))), ints(2, 3)},
		// A bale without a truth is of no kind, be it of its layers or of its weight.
		{only(2, torn(1), light(2), plain(3), weighed(4)), ints(3, 4)},
	} {
		if l, e := mill.Fit(x.m); !slices.Equal(l, x.want) || e != api.OK {
			t.Error(i, l, e)
		}
	}
}

// P9.2, P9.5: the best plan, with the chapter's examples.
func TestBest(t *testing.T) {
	unfit := full()
	unfit.Lots = 2
	unfit.Cottons[1].Bale, unfit.Cottons[4].Bale = blank(2, 2), torn(5)
	for i, x := range []struct {
		m                api.Mill
		plan             []int
		length, strength int
		needs            []int
	}{
		{example(2), ints(0, 1, 1, 2, 2, 0), 1, 6, ints(2, 3, 4, 5)}, {example(1), ints(0, 0, 0, 1, 1, 0), 1, 5, ints(4, 5)},
		{full(), ints(1, 2, 1, 3, 2, 3, 0), 2, 5, ints(1, 2, 3, 4, 5, 6)},
		// One that is not fit is left, even if it would fit best.
		{unfit, ints(1, 0, 1, 2, 0, 2, 0), 1, 1, ints(1, 3, 4, 6)},
		// Just as many as are wanted; one more of which any may be left: then the first one is.
		{line(1, 2, 1, 60), ints(1, 1), 59, 0, ints(1, 2)}, {line(3, 2, 5, 5, 5, 5, 5, 5), ints(1, 1, 2, 2, 3, 3), 0, 0, ints(1, 2, 3, 4, 5, 6)}, {line(3, 2, 5, 5, 5, 5, 5, 5, 5), ints(0, 1, 1, 2, 2, 3, 3), 0, 0, nil}, {line(2, 3, 5, 5, 5, 5, 5, 5), ints(1, 1, 1, 2, 2, 2), 0, 0, ints(1, 2, 3, 4, 5, 6)}, {line(1, 4, 7, 7, 7, 7), ints(1, 1, 1, 1), 0, 0, ints(1, 2, 3, 4)},
		// Lengths count for more than any strengths do; strengths only of plans whose lengths differ as far.
		{strong(line(1, 2, 30, 31, 31, 32), 80, 80, 200, 80), ints(0, 1, 1, 0), 0, 120, ints(2, 3)}, {strong(line(1, 2, 30, 31, 32, 33), 1, 200, 1, 200), ints(0, 0, 1, 1), 1, 199, nil}, {strong(line(1, 2, 30, 31, 32, 33), 1, 200, 1, 2), ints(0, 0, 1, 1), 1, 1, ints(3, 4)},
		// Lengths that differ the most, and strengths, may be those of two lots, in which others do not count then.
		{strong(line(2, 2, 30, 34, 50, 50), 80, 80, 1, 60), ints(1, 1, 2, 2), 4, 59, ints(1, 2, 3, 4)}, {strong(line(2, 2, 10, 10, 14, 50, 54), 5, 6, 5, 90, 99), ints(0, 1, 1, 2, 2), 4, 9, ints(4, 5)},
		// Which bale is left is told before which lots others are in.
		{line(2, 2, 9, 1, 9, 1, 9), ints(0, 1, 2, 1, 2), 0, 0, ints(2, 4)}, {line(2, 2, 1, 9, 9, 1), ints(1, 2, 2, 1), 0, 0, ints(1, 2, 3, 4)},
	} {
		l, e := mill.Best(x.m)
		a, b, f := mill.Even(x.m)
		c, d, g := mill.Judge(x.m, l)
		k, h := mill.Needs(x.m)
		if !slices.Equal(l, x.plan) || e != api.OK || a != x.length || b != x.strength || f != api.OK || c != a || d != b || g != api.OK || !slices.Equal(k, x.needs) || h != api.OK {
			t.Error(i, l, e, a, b, f, c, d, g, k, h)
		}
	}
}

// P9.1: no plan is allowed if bales that are fit are too few, with the chapter's example.
func TestFew(t *testing.T) {
	for i, m := range []api.Mill{example(3), line(1, 2), line(1, 2, 7), line(3, 4, 1, 1, 1, 1, 1, 1, 1), line(2, 4, 1, 1, 1, 1, 1, 1, 1), line(3, 3, 1, 1, 1, 1, 1, 1, 1), only(2, plain(1), two(2)), only(3, plain(1), light(2), plain(3), torn(4), blank(5, 3))} {
		l, e := mill.Best(m)
		a, b, f := mill.Even(m)
		k, g := mill.Needs(m)
		if len(l) > 0 || e != api.ErrFew || a != 0 || b != 0 || f != api.ErrFew || len(k) > 0 || g != api.ErrFew {
			t.Error(i, l, e, a, b, f, k, g)
		}
	}
}

// P9.2, P9.4, P9.6: plans of others, with the chapter's examples.
func TestPlans(t *testing.T) {
	for i, x := range []struct {
		m                api.Mill
		plan             []int
		length, strength int
		lots             [][]int
		out, in          int // of Swap: ErrNone if they are 0
		order            []int
		step             int
	}{
		{example(2), ints(1, 1, 0, 2, 2, 0), 2, 5, [][]int{{1, 2}, {4, 5}}, 1, 3, ints(1, 2), 13}, {example(2), ints(0, 1, 1, 2, 2, 0), 1, 6, [][]int{{2, 3}, {4, 5}}, 0, 0, ints(1, 2), 10}, {example(2), ints(0, 2, 2, 1, 1, 0), 1, 6, [][]int{{4, 5}, {2, 3}}, 0, 0, ints(1, 2), 10}, {example(2), ints(2, 1, 1, 0, 2, 0), 8, 6, [][]int{{2, 3}, {1, 5}}, 1, 4, ints(1, 2), 3}, {example(1), ints(1, 0, 0, 0, 1, 0), 8, 5, [][]int{{1, 5}}, 1, 4, ints(1), 0},
		// One that is not fit is not put in, even if it would fit best.
		{strong(line(1, 2, 10, 10, 19), 1, 5, 1), ints(1, 0, 1), 9, 0, [][]int{{1, 3}}, 3, 2, ints(1), 0}, {api.Mill{Lots: 1, Size: 2, Cottons: []api.Cotton{cotton(4, 10, 1), {Bale: two(5), Length: 10, Strength: 1}, cotton(6, 19, 1)}}, ints(1, 0, 1), 9, 0, [][]int{{4, 6}}, 0, 0, ints(1), 0},
		// Nothing is left to be put in.
		{line(3, 2, 1, 1, 9, 9, 5, 5), ints(1, 2, 2, 3, 3, 1), 8, 0, [][]int{{1, 6}, {2, 3}, {4, 5}}, 0, 0, ints(1, 2, 3), 4},
		// What becomes as even only is not told; strengths decide if lengths differ as far.
		{line(1, 2, 9, 9, 9), ints(1, 0, 1), 0, 0, [][]int{{1, 3}}, 0, 0, ints(1), 0}, {strong(line(1, 2, 9, 9, 9), 5, 6, 7), ints(1, 0, 1), 0, 2, [][]int{{1, 3}}, 1, 2, ints(1), 0}, {strong(line(1, 2, 9, 9, 10), 5, 200, 5), ints(1, 0, 1), 1, 0, [][]int{{1, 3}}, 3, 2, ints(1), 0}, {strong(line(1, 2, 9, 9, 9), 5, 3, 7), ints(1, 0, 1), 0, 2, [][]int{{1, 3}}, 0, 0, ints(1), 0},
		// Of several exchanges the one that leaves the least bale, then the one that puts in the least.
		{line(1, 2, 5, 9, 9, 5), ints(1, 1, 0, 0), 4, 0, [][]int{{1, 2}}, 1, 3, ints(1), 0}, {line(1, 2, 9, 1, 9, 9), ints(1, 1, 0, 0), 8, 0, [][]int{{1, 2}}, 2, 3, ints(1), 0}, {line(1, 2, 9, 9, 1, 9), ints(0, 0, 1, 1), 8, 0, [][]int{{3, 4}}, 3, 1, ints(1), 0},
		// The most even one, not the first one that is more even.
		{line(1, 2, 1, 9, 5, 8, 9), ints(1, 1, 0, 0, 0), 8, 0, [][]int{{1, 2}}, 1, 5, ints(1), 0},
		// The greatest step counts, not all together; a lot runs first if it is less, or if it has to.
		{line(3, 2, 1, 1, 9, 9, 5, 5), ints(1, 1, 2, 2, 3, 3), 0, 0, [][]int{{1, 2}, {3, 4}, {5, 6}}, 0, 0, ints(1, 3, 2), 8}, {line(3, 2, 5, 5, 9, 9, 1, 1), ints(1, 1, 2, 2, 3, 3), 0, 0, [][]int{{1, 2}, {3, 4}, {5, 6}}, 0, 0, ints(2, 1, 3), 8}, {line(3, 2, 1, 1, 5, 5, 9, 9), ints(1, 1, 2, 2, 3, 3), 0, 0, [][]int{{1, 2}, {3, 4}, {5, 6}}, 0, 0, ints(1, 2, 3), 8}, {line(3, 2, 1, 1, 9, 9, 1, 1), ints(1, 1, 2, 2, 3, 3), 0, 0, [][]int{{1, 2}, {3, 4}, {5, 6}}, 0, 0, ints(1, 2, 3), 16}, {line(3, 2, 1, 60, 9, 9, 1, 1), ints(1, 1, 2, 2, 3, 3), 59, 0, [][]int{{1, 2}, {3, 4}, {5, 6}}, 0, 0, ints(1, 2, 3), 43}, {line(2, 3, 60, 60, 60, 1, 1, 1), ints(2, 2, 2, 1, 1, 1), 0, 0, [][]int{{4, 5, 6}, {1, 2, 3}}, 0, 0, ints(1, 2), 177}, {line(3, 2, 4, 4, 4, 4, 4, 4, 4), ints(3, 2, 1, 0, 1, 2, 3), 0, 0, [][]int{{3, 5}, {2, 6}, {1, 7}}, 0, 0, ints(1, 2, 3), 0},
	} {
		a, b, e := mill.Judge(x.m, x.plan)
		l, f := mill.Lots(x.m, x.plan)
		k, n, g := mill.Run(x.m, x.plan)
		if a != x.length || b != x.strength || e != api.OK || !slices.EqualFunc(l, x.lots, slices.Equal) || f != api.OK || !slices.Equal(k, x.order) || n != x.step || g != api.OK {
			t.Error(i, a, b, e, l, f, k, n, g)
		}
		want := api.OK
		if x.out == 0 {
			want = api.ErrNone
		}
		if out, in, e := mill.Swap(x.m, x.plan); out != x.out || in != x.in || e != want {
			t.Error(i, out, in, e)
		}
	}
}

// P9.1: plans that are not allowed.
func TestSplits(t *testing.T) {
	for i, x := range []struct {
		m    api.Mill
		plan []int
	}{
		{example(2), nil}, {example(2), ints(0, 1, 1, 2, 2)}, {example(2), ints(0, 1, 1, 2, 2, 0, 0)}, {example(2), ints(0, 1, 1, 2, 0, 2)}, {example(2), ints(0, 1, 1, 0, 0, 0)}, {example(2), ints(1, 1, 1, 2, 2, 0)}, {example(2), ints(1, 1, 1, 2, 0, 0)}, {example(2), ints(0, 0, 0, 0, 0, 0)}, {example(2), ints(0, 1, 1, 3, 3, 0)}, {example(2), ints(0, 1, 1, -1, -1, 0)}, {example(2), ints(math.MinInt, 1, 1, 2, 2, 0)}, {example(2), ints(0, 1, 1, 2, 2, math.MaxInt)}, {example(2), ints(-1, 1, 1, 2, 2, 0)},
		{example(1), ints(0, 1, 1, 2, 2, 0)}, {example(3), ints(0, 1, 1, 2, 2, 0)}, {example(3), ints(3, 1, 1, 2, 2, 3)}, {line(1, 2), nil}, {line(1, 2, 5), ints(1)}, {line(1, 3, 5, 5, 5), ints(1, 1, 0)},
	} {
		a, b, e := mill.Judge(x.m, x.plan)
		l, f := mill.Lots(x.m, x.plan)
		c, d, g := mill.Swap(x.m, x.plan)
		k, n, h := mill.Run(x.m, x.plan)
		if a != 0 || b != 0 || e != api.ErrSplit || len(l) > 0 || f != api.ErrSplit || c != 0 || d != 0 || g != api.ErrSplit || len(k) > 0 || n != 0 || h != api.ErrSplit {
			t.Error(i, a, b, e, l, f, c, d, g, k, n, h)
		}
	}
}

// P9.3: how many lots there can be, with the chapter's examples.
func TestMost(t *testing.T) {
	unfit := line(1, 2, 9, 9, 9, 9)
	unfit.Cottons[2].Bale = two(3)
	for i, x := range []struct {
		m         api.Mill
		far, want int
		e         api.Errno
	}{
		{example(2), 0, 0, api.OK}, {example(2), 1, 2, api.OK}, {example(2), 4, 2, api.OK}, {example(2), 60, 2, api.OK}, {example(1), 1, 2, api.OK}, {example(3), 60, 2, api.OK}, {example(2), math.MaxInt, 2, api.OK}, {example(2), -1, 0, api.ErrArg}, {example(2), math.MinInt, 0, api.ErrArg}, {line(1, 2), -1, 0, api.ErrArg}, {line(1, 2), 0, 0, api.OK}, {line(1, 2), math.MaxInt, 0, api.OK}, {broken(), -1, 0, api.ErrMill},
		{line(1, 2, 9, 9, 9, 9, 9, 9, 9), 0, 3, api.OK}, {line(1, 3, 9, 9, 9, 9, 9, 9, 9), 0, 2, api.OK}, {line(1, 4, 9, 9, 9, 9, 9, 9, 9), 0, 1, api.OK}, {line(3, 4, 9, 9, 9), 0, 0, api.OK}, {unfit, 0, 1, api.OK},
		// Bales lie in any order; those that differ too far are passed by, one by one.
		{line(1, 2, 4, 1, 3, 2), 1, 2, api.OK}, {line(1, 2, 1, 3, 4, 6), 1, 1, api.OK}, {line(1, 2, 1, 3, 4, 6), 2, 2, api.OK}, {line(1, 3, 1, 3, 4, 5, 9), 2, 1, api.OK}, {line(1, 3, 1, 5, 6, 7, 8, 9), 2, 1, api.OK}, {line(1, 3, 60, 1), 59, 0, api.OK}, {line(1, 2, 60, 1), 59, 1, api.OK}, {line(1, 2, 60, 1), 58, 0, api.OK},
		// Strengths do not count.
		{strong(line(1, 2, 5, 5, 6, 6), 1, 200, 1, 200), 0, 2, api.OK},
	} {
		if n, e := mill.Most(x.m, x.far); n != x.want || e != x.e {
			t.Error(i, n, e)
		}
	}
}

// P9.5: what one bale more helps, with the chapter's example.
func TestHelps(t *testing.T) {
	odd := cotton(7, 29, 80)
	odd.Bale = two(7)
	for i, x := range []struct {
		m                api.Mill
		x                api.Cotton
		length, strength int
		e                api.Errno
	}{
		{example(2), cotton(7, 31, 90), 1, 5, api.OK}, {example(2), cotton(7, 1, 1), 1, 6, api.OK}, {example(2), odd, 1, 6, api.OK}, {example(3), cotton(7, 29, 80), 1, 6, api.OK}, {line(1, 2, 5), cotton(9, 60, 1), 55, 49, api.OK},
		{example(3), odd, 0, 0, api.ErrFew}, {line(1, 3, 5), cotton(9, 5, 50), 0, 0, api.ErrFew}, {line(1, 2), cotton(9, 5, 50), 0, 0, api.ErrFew},
		{full(), cotton(9, 31, 90), 0, 0, api.ErrFull}, {full(), api.Cotton{}, 0, 0, api.ErrFull}, {line(3, 4, 1, 1, 1, 1, 1, 1, 1), cotton(9, 1, 1), 0, 0, api.ErrFull},
		{example(2), api.Cotton{}, 0, 0, api.ErrCotton}, {example(2), cotton(1, 31, 90), 0, 0, api.ErrCotton}, {example(3), cotton(1, 31, 90), 0, 0, api.ErrCotton}, {line(1, 2), cotton(1, 0, 90), 0, 0, api.ErrCotton}, {example(2), cotton(7, 61, 90), 0, 0, api.ErrCotton}, {example(2), cotton(7, 31, 201), 0, 0, api.ErrCotton}, {broken(), api.Cotton{}, 0, 0, api.ErrMill},
	} {
		if a, b, e := mill.Helps(x.m, x.x); a != x.length || b != x.strength || e != x.e {
			t.Error(i, a, b, e)
		}
	}
}

// P9.5: what is so without a bale, with the chapter's example.
func TestWithout(t *testing.T) {
	for i, x := range []struct {
		m                api.Mill
		bale             int
		length, strength int
		e                api.Errno
	}{
		{example(2), 2, 3, 10, api.OK}, {example(2), 1, 1, 6, api.OK}, {example(2), 3, 2, 5, api.OK}, {example(2), 6, 1, 6, api.OK}, {example(1), 4, 1, 6, api.OK}, {line(1, 2, 9, 9, 9), 3, 0, 0, api.OK},
		{line(1, 2, 1, 1), 1, 0, 0, api.ErrFew}, {example(3), 6, 0, 0, api.ErrFew}, {line(1, 2, 1), 1, 0, 0, api.ErrFew},
		{example(2), 7, 0, 0, api.ErrNone}, {example(3), 7, 0, 0, api.ErrNone}, {example(2), 0, 0, 0, api.ErrNone}, {example(2), -1, 0, 0, api.ErrNone}, {example(2), math.MinInt, 0, 0, api.ErrNone}, {example(2), math.MaxInt, 0, 0, api.ErrNone}, {line(1, 2), 1, 0, 0, api.ErrNone}, {broken(), 7, 0, 0, api.ErrMill},
	} {
		if a, b, e := mill.Without(x.m, x.bale); a != x.length || b != x.strength || e != x.e {
			t.Error(i, a, b, e)
		}
	}
}
