package paper_test

import (
	"math"
	"slices"
	"testing"

	"middling/api"
	"middling/paper"
	"middling/testhelp"
)

// roomier is full without one of each sort: the pass 9999, the pledge 10, and the paper 9999 with its pledge.
func roomier() api.Papers {
	p := full()
	p.Papers = p.Papers[:2]
	p.Passes = p.Passes[:7]
	p.Pledges = slices.Delete(p.Pledges, 3, 5)
	return p
}

// P7.7: a pass more, in its place.
func TestPut(t *testing.T) {
	gap := changed(func(p *api.Papers) { p.Passes = slices.Delete(p.Passes, 2, 3) })
	five := example(pass(7, 2, 7, 6, 5, 5), pass(8, 2, 6, 7, 5, 5))
	five.Passes = five.Passes[1:]
	for i, x := range []struct {
		p  api.Papers
		x  api.Pass
		at int
		e  api.Errno
	}{
		{gap, pass(3, 1, 5, 7, 1, 4), 2, api.OK}, {gap, pass(3, 2, 9999, 1, 0, 5), 2, api.OK}, {example(), pass(9999, 1, 1, 9999, 5, 5), 6, api.OK}, {roomier(), pass(9, 1, 8, 9, 0, 0), 6, api.OK}, {gone(1), pass(1, 4, 5, 6, 0, 0), 0, api.OK}, {changed(func(p *api.Papers) { p.Passes = p.Passes[1:] }), pass(1, 1, 5, 6, 1, 3), 0, api.OK}, {odd(), pass(8, 1, 6, 5, 0, 0), 7, api.OK}, {five, pass(1, 1, 5, 6, 0, 0), 0, api.OK},
		{full(), pass(20, 1, 8, 9, 0, 0), 0, api.ErrFull}, {full(), pass(10, 1, 8, 9, 0, 0), 0, api.ErrFull}, {full(), api.Pass{}, 0, api.ErrFull},
		{five, pass(1, 2, 6, 7, 5, 5), 0, api.ErrPass}, {example(), pass(3, 1, 5, 7, 1, 4), 0, api.ErrPass}, {example(), api.Pass{}, 0, api.ErrPass}, {example(), pass(0, 1, 8, 9, 0, 0), 0, api.ErrPass}, {example(), pass(10000, 1, 8, 9, 0, 0), 0, api.ErrPass}, {example(), pass(math.MinInt, 1, 8, 9, 0, 0), 0, api.ErrPass}, {example(), pass(math.MaxInt, 1, 8, 9, 0, 0), 0, api.ErrPass},
		{example(), pass(8, 3, 8, 9, 0, 0), 0, api.ErrPass}, {example(), pass(8, 1, 8, 8, 0, 0), 0, api.ErrPass}, {example(), pass(8, 1, 0, 8, 0, 0), 0, api.ErrPass}, {example(), pass(8, 1, 8, 10000, 0, 0), 0, api.ErrPass}, {example(), pass(8, 1, 8, 9, -1, 0), 0, api.ErrPass}, {example(), pass(8, 1, 8, 9, 0, 6), 0, api.ErrPass}, {example(), pass(8, 1, 8, 9, 3, 2), 0, api.ErrPass},
	} {
		want := api.Papers{}
		if x.e == api.OK {
			want = copied(x.p)
			want.Passes = slices.Insert(want.Passes, x.at, x.x)
		}
		if y, e := paper.Put(x.p, x.x); e != x.e || !same(y, want) {
			t.Error(i, y, e)
		}
	}
}

// P7.7: a pledge more, in its place.
func TestLend(t *testing.T) {
	day := span(0, 0)
	gap := changed(func(p *api.Papers) { p.Pledges = slices.Delete(p.Pledges, 1, 2) })
	for i, x := range []struct {
		p  api.Papers
		x  api.Pledge
		at int
		e  api.Errno
	}{
		{gap, pledge(2, 1, 5, 90, day, span(0, 1)), 1, api.OK}, {gap, pledge(2, 2, 1, 9999, span(0, 5), span(0, 5)), 1, api.OK}, {example(), pledge(9999, 1, 9999, 1, span(5, 5), span(0, 5)), 3, api.OK}, {roomier(), pledge(20, 1, 8, 9, day, day), 3, api.OK}, {gone(1), pledge(1, 4, 5, 6, day, day), 0, api.OK}, {changed(func(p *api.Papers) { p.Pledges = p.Pledges[1:] }), pledge(1, 2, 7, 90, day, day), 0, api.OK}, {odd(), pledge(4, 1, 5, 6, day, day), 3, api.OK}, {gone(10), pledge(4, 4, 5, 6, span(3, 9), span(0, 3)), 0, api.OK},
		{full(), pledge(30, 9999, 8, 9, day, day), 0, api.ErrFull}, {full(), pledge(20, 9999, 8, 9, day, day), 0, api.ErrFull}, {full(), api.Pledge{}, 0, api.ErrFull},
		{lent(term(0, 0, 0, 0), term(0, 0, 0, 0), term(0, 0, 0, 0)), pledge(9, 4, 8, 9, day, day), 0, api.ErrPledge}, {example(), pledge(3, 2, 8, 9, day, day), 0, api.ErrPledge}, {example(), api.Pledge{}, 0, api.ErrPledge}, {example(), pledge(0, 2, 8, 9, day, day), 0, api.ErrPledge}, {example(), pledge(10000, 2, 8, 9, day, day), 0, api.ErrPledge}, {example(), pledge(math.MinInt, 2, 8, 9, day, day), 0, api.ErrPledge},
		{example(), pledge(8, 3, 8, 9, day, day), 0, api.ErrPledge}, {example(), pledge(8, 2, 0, 9, day, day), 0, api.ErrPledge}, {example(), pledge(8, 2, 8, 10000, day, day), 0, api.ErrPledge}, {example(), pledge(8, 2, 8, 9, span(0, 6), day), 0, api.ErrPledge}, {example(), pledge(8, 2, 8, 9, day, span(-1, 0)), 0, api.ErrPledge}, {example(), pledge(8, 2, 8, 9, span(2, 1), span(3, 3)), 0, api.ErrPledge}, {example(), pledge(8, 2, 8, 9, day, span(3, 2)), 0, api.ErrPledge}, {example(), pledge(8, 2, 8, 9, span(4, 5), span(0, 3)), 0, api.ErrPledge},
	} {
		want := api.Papers{}
		if x.e == api.OK {
			want = copied(x.p)
			want.Pledges = slices.Insert(want.Pledges, x.at, x.x)
		}
		if y, e := paper.Lend(x.p, x.x); e != x.e || !same(y, want) {
			t.Error(i, y, e)
		}
	}
}

// P7.7: a paper more, in its place.
func TestIssue(t *testing.T) {
	for i, x := range []struct {
		p  api.Papers
		x  api.Paper
		at int
		e  api.Errno
	}{
		{gone(1), sheet(1, 1, 1), 0, api.OK}, {gone(1), sheet(9999, 9999, 9999), 1, api.OK}, {example(), sheet(3, 10, 5), 2, api.OK}, {roomier(), sheet(9999, 10, 9999), 2, api.OK}, {api.Papers{Days: 1}, sheet(5, 1, 1), 0, api.OK}, {odd(), sheet(3, 1, 1), 2, api.OK}, {api.Papers{Days: 2, Papers: []api.Paper{sheet(2, 1, 1), sheet(7, 1, 1)}}, sheet(5, 1, 1), 1, api.OK},
		{full(), sheet(3, 1, 1), 0, api.ErrFull}, {full(), sheet(2, 1, 1), 0, api.ErrFull}, {full(), api.Paper{}, 0, api.ErrFull},
		{example(), sheet(2, 11, 6), 0, api.ErrPaper}, {example(), api.Paper{}, 0, api.ErrPaper}, {example(), sheet(0, 1, 1), 0, api.ErrPaper}, {example(), sheet(10000, 1, 1), 0, api.ErrPaper}, {example(), sheet(math.MinInt, 1, 1), 0, api.ErrPaper}, {example(), sheet(3, 0, 1), 0, api.ErrPaper}, {example(), sheet(3, 10000, 1), 0, api.ErrPaper}, {example(), sheet(3, 1, 0), 0, api.ErrPaper}, {example(), sheet(3, 1, 10000), 0, api.ErrPaper}, {example(), sheet(3, 1, math.MaxInt), 0, api.ErrPaper},
	} {
		want := api.Papers{}
		if x.e == api.OK {
			want = copied(x.p)
			want.Papers = slices.Insert(want.Papers, x.at, x.x)
		}
		if y, e := paper.Issue(x.p, x.x); e != x.e || !same(y, want) {
			t.Error(i, y, e)
		}
	}
}

// P7.7: some passes less.
func TestStrike(t *testing.T) {
	for i, x := range []struct {
		p       api.Papers
		numbers []int
		e       api.Errno
	}{
		{example(), nil, api.OK}, {example(), ints(), api.OK}, {example(), ints(1), api.OK}, {example(), ints(6), api.OK}, {example(), ints(2, 4, 5), api.OK}, {example(), ints(1, 2, 3, 4, 5, 6), api.OK}, {full(), ints(1, 9999), api.OK}, {odd(), ints(1, 7), api.OK}, {gone(1), nil, api.OK},
		{example(), ints(2, 1), api.ErrPass}, {example(), ints(1, 1), api.ErrPass}, {example(), ints(7), api.ErrPass}, {example(), ints(0), api.ErrPass}, {example(), ints(0, 1), api.ErrPass}, {example(), ints(math.MinInt, 1), api.ErrPass}, {example(), ints(1, math.MaxInt), api.ErrPass}, {example(), ints(1, 2, 3, 4, 5, 6, 7), api.ErrPass}, {full(), ints(1, 7), api.ErrPass}, {gone(1), ints(1), api.ErrPass},
	} {
		want := api.Papers{}
		if x.e == api.OK {
			want = without(x.p, x.numbers)
		}
		if y, e := paper.Strike(x.p, x.numbers); e != x.e || !same(y, want) {
			t.Error(i, y, e)
		}
	}
}

// roomy is papers whose lists have capacity behind their ends, in which nothing may be written.
func roomy() api.Papers {
	p := roomier()
	p.Papers, p.Passes, p.Pledges = testhelp.Grown(p.Papers), testhelp.Grown(p.Passes), testhelp.Grown(p.Pledges)
	return p
}

// whole is a copy of papers with all that is behind the ends of their lists.
func whole(p api.Papers) api.Papers {
	p.Papers, p.Passes, p.Pledges = p.Papers[:cap(p.Papers)], p.Passes[:cap(p.Passes)], p.Pledges[:cap(p.Pledges)]
	return copied(p)
}

// P1, R3: no argument is written to, also not behind its end.
func TestArgumentsStay(t *testing.T) {
	p := roomy()
	before := whole(p)
	numbers := append(make([]int, 0, 9), 1, 4)
	for _, f := range calls() {
		for _, n := range ints(1, 2, 3, 4) {
			x := asks{n, n, n, n, n, 5 - n, pass(8, 1, 8, 9, n, n), pledge(8, 1, 8, 9, span(0, n), span(n, n)), sheet(8, n, n), numbers}
			if _, e := f.do(p, x); n == 2 && e != api.OK && f.name != "Rank" && f.name != "Since" {
				t.Error(f.name, e)
			}
		}
	}
	wrong := roomy()
	wrong.Passes[0].From, wrong.Passes[6].From = 9, 9
	kept := whole(wrong)
	if l, e := paper.Wrong(wrong); !slices.Equal(l, ints(1, 2, 10)) || e != api.OK {
		t.Error(l, e)
	}
	if !same(whole(p), before) || !same(whole(wrong), kept) {
		t.Error(whole(p), whole(wrong))
	}
	if !slices.Equal(numbers[:9], ints(1, 4, 0, 0, 0, 0, 0, 0, 0)) {
		t.Error(numbers[:9])
	}
}

// spoil writes over all memory of papers.
func spoil(p api.Papers) {
	testhelp.Spoil(p.Papers, sheet(77, 7, 7))
	testhelp.Spoil(p.Passes, pass(77, 7, 7, 7, 7, 7))
	testhelp.Spoil(p.Pledges, pledge(77, 7, 7, 7, span(7, 7), span(7, 7)))
}

// P1, R3: a result shares no memory with an argument, nor with another result.
func TestResultsAreNew(t *testing.T) {
	p := roomy()
	before := whole(p)
	put, _ := paper.Put(p, pass(8, 1, 8, 9, 0, 0))
	lent, _ := paper.Lend(p, pledge(8, 1, 8, 9, span(0, 0), span(0, 0)))
	issued, _ := paper.Issue(p, sheet(8, 1, 1))
	all, _ := paper.Strike(p, nil)
	fewer, _ := paper.Strike(p, ints(2))
	again, _ := paper.Strike(all, nil)
	results := []api.Papers{put, lent, issued, all, fewer, again}
	if slices.ContainsFunc(results, func(x api.Papers) bool { return len(x.Papers) < 2 || len(x.Passes) < 6 || len(x.Pledges) < 3 }) {
		t.Error(results)
	}
	if !testhelp.Apart(results, copied, same, spoil) || !same(whole(p), before) {
		t.Error(whole(p))
	}
}

// P1, R3: nothing is remembered, also not by a list that is told; no two lists of orders share memory.
func TestListsAreNew(t *testing.T) {
	ring := gone(3, pass(2, 4, 5, 6, 0, 2), pass(3, 4, 6, 5, 0, 2), pass(5, 4, 5, 6, 0, 1), pass(8, 4, 6, 5, 1, 2))
	for range 2 {
		l, e := paper.Orders(ring, 4)
		if !slices.EqualFunc(l, [][]int{{2, 3, 5, 8}, {2, 8, 5, 3}, {5, 3, 2, 8}, {5, 8, 2, 3}}, slices.Equal) || e != api.OK {
			t.Error(l, e)
		}
		if !testhelp.Apart(l, slices.Clone, slices.Equal, func(x []int) { testhelp.Spoil(x, 77) }) {
			t.Error(l)
		}
		holders, e := paper.Holder(ring, 4, 0)
		if !slices.Equal(holders, ints(5, 6)) || e != api.OK {
			t.Error(holders, e)
		}
		testhelp.Spoil(holders, 77)
		banks, e := paper.Bank(example(), 1, 1)
		if !slices.Equal(banks, ints(90, 91)) || e != api.OK {
			t.Error(banks, e)
		}
		testhelp.Spoil(banks, 77)
		wrong, e := paper.Wrong(odd())
		if !slices.Equal(wrong, ints(7)) || e != api.OK {
			t.Error(wrong, e)
		}
		testhelp.Spoil(wrong, 77)
	}
}

// P1, R4: nil lists and empty ones are the same.
func TestNilAndEmpty(t *testing.T) {
	a, b := gone(2), gone(2)
	b.Passes, b.Pledges = []api.Pass{}, []api.Pledge{}
	c, d := api.Papers{Days: 2}, api.Papers{Days: 2, Papers: []api.Paper{}, Passes: []api.Pass{}, Pledges: []api.Pledge{}}
	for _, f := range calls() {
		for _, x := range []asks{{paper: 4, house: 5, pass: 1, pledge: 1}, {numbers: []int{}, put: pass(1, 4, 5, 6, 0, 0), issue: sheet(1, 1, 1)}} {
			for _, y := range [][2]api.Papers{{a, b}, {c, d}} {
				is, e := f.do(y[0], x)
				if also, g := f.do(y[1], x); e != g || is != also {
					t.Error(f.name, is, e, also, g)
				}
			}
		}
	}
	for _, x := range []api.Papers{a, b} {
		if l, e := paper.Orders(x, 4); len(l) != 1 || len(l[0]) != 0 || e != api.OK {
			t.Error(l, e)
		}
		if y, e := paper.Strike(x, []int{}); !same(y, a) || e != api.OK {
			t.Error(y, e)
		}
		if y, e := paper.Put(x, pass(1, 4, 5, 6, 0, 0)); !same(y, gone(2, pass(1, 4, 5, 6, 0, 0))) || e != api.OK {
			t.Error(y, e)
		}
	}
}
