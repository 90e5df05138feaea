package paper_test

import (
	"slices"
	"testing"

	"middling/api"
	"middling/paper"
)

// ring is the paper 4 that goes twice from 5 to 6 and back, and can do so in four orders.
func ring() api.Papers {
	return gone(3, pass(2, 4, 5, 6, 0, 2), pass(3, 4, 6, 5, 0, 2), pass(5, 4, 5, 6, 0, 1), pass(8, 4, 6, 5, 1, 2))
}

// P7.2: whether there is a truth, and the orders, with the chapter's examples.
func TestOrders(t *testing.T) {
	for i, x := range []struct {
		p    api.Papers
		id   int
		want [][]int
	}{
		{example(), 1, [][]int{{1, 2, 3}}}, {example(), 2, [][]int{{4, 5, 6}, {6, 5, 4}}}, {ring(), 4, [][]int{{2, 3, 5, 8}, {2, 8, 5, 3}, {5, 3, 2, 8}, {5, 8, 2, 3}}}, {gone(1), 4, [][]int{nil}}, {full(), 9999, [][]int{nil}},
		{gone(1, pass(1, 4, 5, 6, 0, 0), pass(2, 4, 6, 7, 0, 0)), 4, [][]int{{1, 2}}}, {gone(1, pass(1, 4, 6, 7, 0, 0), pass(2, 4, 5, 6, 0, 0)), 4, [][]int{{2, 1}}},
		// Between 5 and 6 and back there are two ways, one of which goes by 7.
		{gone(9, pass(1, 4, 5, 6, 0, 8), pass(2, 4, 6, 5, 0, 8), pass(3, 4, 5, 7, 0, 8), pass(4, 4, 7, 5, 0, 8)), 4, [][]int{{1, 2, 3, 4}, {3, 4, 1, 2}}}, {gone(9, pass(1, 4, 5, 6, 0, 3), pass(2, 4, 6, 5, 2, 3), pass(3, 4, 5, 7, 0, 1), pass(4, 4, 7, 5, 0, 8)), 4, [][]int{{3, 4, 1, 2}}},
		// The same day is enough, one too few is not.
		{gone(9, pass(1, 4, 5, 6, 4, 5), pass(2, 4, 6, 5, 0, 4), pass(3, 4, 5, 6, 4, 4)), 4, [][]int{{1, 2, 3}, {3, 2, 1}}}, {gone(9, pass(1, 4, 5, 6, 5, 5), pass(2, 4, 6, 5, 0, 4), pass(3, 4, 5, 6, 4, 4)), 4, [][]int{{3, 2, 1}}},
		// A pass that cannot be late keeps all before it back.
		{gone(9, pass(1, 4, 5, 6, 0, 8), pass(2, 4, 6, 5, 3, 8), pass(3, 4, 5, 6, 0, 8), pass(4, 4, 6, 5, 0, 2)), 4, [][]int{{1, 4, 3, 2}, {3, 4, 1, 2}}},
	} {
		l, e := paper.Orders(x.p, x.id)
		if !slices.EqualFunc(l, x.want, slices.Equal) || e != api.OK || !can(x.p) {
			t.Error(i, l, e)
		}
	}
	for i, p := range []api.Papers{
		odd(), gone(1, pass(1, 4, 6, 5, 0, 0)), gone(2, pass(1, 4, 5, 6, 1, 1), pass(2, 4, 6, 7, 0, 0)), gone(2, pass(1, 4, 5, 6, 0, 1), pass(2, 4, 5, 6, 0, 1)), gone(2, pass(1, 4, 5, 6, 0, 1), pass(2, 4, 7, 8, 0, 1)), many(),
		// Each one goes on from the one before it, but the third one must be before the first one.
		gone(3, pass(1, 4, 5, 6, 2, 2), pass(2, 4, 6, 7, 0, 2), pass(3, 4, 7, 8, 0, 1)),
	} {
		if is, e := paper.Can(p); is || e != api.OK {
			t.Error(i, is, e)
		}
		if l, e := paper.Orders(p, p.Papers[0].Id); len(l) != 0 || e != api.ErrBad {
			t.Error(i, l, e)
		}
	}
}

// P7.3: who holds a paper, with the chapter's examples.
func TestHolder(t *testing.T) {
	there := gone(4, pass(1, 4, 5, 6, 1, 1), pass(2, 4, 6, 7, 1, 1), pass(3, 4, 7, 8, 2, 3))
	for i, x := range []struct {
		p    api.Papers
		id   int
		days [][]int
	}{
		{example(), 1, [][]int{{5}, {5, 6}, {5, 7}, {5, 7}, {7}, {7}}}, {example(), 2, [][]int{{6, 7}, {6, 7}, {6, 7}, {6, 7}, {6, 7}, {7}}}, {there, 4, [][]int{{5}, {7}, {7, 8}, {8}}}, {ring(), 4, [][]int{{5, 6}, {5, 6}, {5}}}, {gone(3), 4, [][]int{{5}, {5}, {5}}}, {full(), 9999, [][]int{{9999}, {9999}, {9999}, {9999}, {9999}, {9999}}},
		// The days of passes bind each other.
		{gone(4, pass(1, 4, 5, 6, 0, 3), pass(2, 4, 6, 7, 1, 2)), 4, [][]int{{5, 6}, {5, 6, 7}, {7}, {7}}},
	} {
		for day, want := range x.days {
			if l, e := paper.Holder(x.p, x.id, day); !slices.Equal(l, want) || e != api.OK {
				t.Error(i, day, l, e)
			}
			for _, house := range append(houses(), 6, 7, 8, 9999) {
				k := uint8(api.KnownNo)
				if slices.Contains(want, house) {
					k = api.KnownYes
				}
				if k == api.KnownYes && len(want) > 1 {
					k = api.KnownOpen
				}
				if is, e := paper.Known(x.p, x.id, house, day); is != k || e != api.OK {
					t.Error(i, day, house, is, e)
				}
			}
		}
	}
}

// P7.3: when a paper was passed, with the chapter's examples.
func TestWhen(t *testing.T) {
	for i, x := range []struct {
		p    api.Papers
		want []api.Span
	}{
		{example(), []api.Span{span(1, 2), span(2, 2), span(2, 4), span(0, 5), span(2, 3), span(3, 4)}},
		{example(pass(7, 2, 7, 9, 4, 4)), []api.Span{span(1, 2), span(2, 2), span(2, 4), span(0, 4), span(2, 3), span(3, 4), span(4, 4)}},
		{ring(), []api.Span{span(0, 2), span(0, 2), span(0, 1), span(1, 2)}},
		{gone(9, pass(1, 4, 5, 6, 0, 8), pass(2, 4, 6, 7, 3, 4), pass(3, 4, 7, 8, 0, 8)), []api.Span{span(0, 4), span(3, 4), span(3, 8)}},
		{gone(9, pass(1, 4, 7, 8, 0, 6), pass(2, 4, 6, 7, 0, 8), pass(3, 4, 5, 6, 2, 8)), []api.Span{span(2, 6), span(2, 6), span(2, 6)}},
		{gone(9, pass(1, 4, 5, 6, 8, 8)), []api.Span{span(8, 8)}},
	} {
		for at, want := range x.want {
			if s, e := paper.When(x.p, x.p.Passes[at].Number); s != want || e != api.OK {
				t.Error(i, at, s, e)
			}
		}
	}
}

// P7.3: how many papers a house holds, with the chapter's examples.
func TestHolds(t *testing.T) {
	for i, x := range []struct {
		p          api.Papers
		house, day int
		want       api.Span
	}{
		{example(), 7, 5, span(2, 2)}, {example(), 6, 2, span(0, 1)}, {example(), 5, 0, span(1, 1)}, {example(), 6, 0, span(0, 1)}, {example(), 7, 3, span(0, 2)}, {example(), 7, 4, span(1, 2)}, {example(), 8, 3, span(0, 0)}, {example(), 0, 5, span(0, 0)}, {example(), -1, 5, span(0, 0)}, {full(), 9999, 5, span(1, 1)}, {api.Papers{Days: 3}, 5, 2, span(0, 0)},
		{api.Papers{Days: 1, Papers: []api.Paper{sheet(1, 1, 5), sheet(2, 1, 5), sheet(3, 1, 5)}}, 5, 0, span(3, 3)},
	} {
		if s, e := paper.Holds(x.p, x.house, x.day); s != x.want || e != api.OK {
			t.Error(i, s, e)
		}
	}
}

// pledged is the paper 4 that goes from 5 to 6 on 3 to 5, and back on 7, with a pledge by 5.
func pledged(from, until api.Span) api.Papers {
	p := gone(10, pass(1, 4, 5, 6, 3, 5), pass(2, 4, 6, 5, 7, 7))
	p.Pledges = []api.Pledge{pledge(1, 4, 5, 90, from, until)}
	return p
}

// P7.4, P7.12: which pledges are good, with the chapter's examples.
func TestGood(t *testing.T) {
	// By two passes on one day the paper comes back before the day ends.
	back := gone(3, pass(1, 4, 5, 6, 1, 1), pass(2, 4, 6, 5, 1, 1))
	back.Pledges = []api.Pledge{pledge(1, 4, 5, 90, span(0, 0), span(2, 2))}
	other := lent(term(0, 9, 0, 9))
	other.Pledges[0].By = 6
	for i, x := range []struct {
		p    api.Papers
		want []uint8
	}{
		{example(), []uint8{api.KnownOpen, api.KnownOpen, api.KnownOpen}}, {lent(term(0, 9, 0, 9)), []uint8{api.KnownYes}}, {other, []uint8{api.KnownNo}}, {back, []uint8{api.KnownYes}},
		{pledged(span(0, 0), span(2, 2)), []uint8{api.KnownYes}}, {pledged(span(0, 0), span(3, 3)), []uint8{api.KnownOpen}}, {pledged(span(0, 0), span(4, 4)), []uint8{api.KnownOpen}}, {pledged(span(0, 0), span(5, 5)), []uint8{api.KnownNo}}, {pledged(span(0, 5), span(5, 6)), []uint8{api.KnownNo}},
		{pledged(span(7, 7), span(9, 9)), []uint8{api.KnownYes}}, {pledged(span(6, 7), span(9, 9)), []uint8{api.KnownOpen}}, {pledged(span(6, 6), span(6, 9)), []uint8{api.KnownNo}}, {pledged(span(6, 7), span(6, 7)), []uint8{api.KnownOpen}}, {pledged(span(0, 2), span(7, 9)), []uint8{api.KnownNo}}, {pledged(span(0, 9), span(0, 9)), []uint8{api.KnownOpen}},
		// It must be held on all days of one truth: on each of them it can be is not enough.
		{pledged(span(2, 2), span(7, 7)), []uint8{api.KnownNo}},
	} {
		for at, want := range x.want {
			if k, e := paper.Good(x.p, x.p.Pledges[at].Number); k != want || e != api.OK {
				t.Error(i, at, k, e)
			}
		}
	}
}

// P7.4: on each day one of two houses holds the paper, but no house holds it on both days in any truth.
func TestGoodInOneTruth(t *testing.T) {
	p := gone(2, pass(1, 4, 5, 6, 0, 1), pass(2, 4, 6, 5, 0, 1), pass(3, 4, 5, 6, 0, 1), pass(4, 4, 6, 7, 1, 1))
	p.Pledges = []api.Pledge{pledge(1, 4, 6, 90, span(0, 0), span(1, 1)), pledge(2, 4, 6, 90, span(0, 0), span(0, 0)), pledge(3, 4, 7, 90, span(1, 1), span(1, 1))}
	for i, want := range []uint8{api.KnownNo, api.KnownOpen, api.KnownYes} {
		if k, e := paper.Good(p, i+1); k != want || e != api.OK {
			t.Error(i, k, e)
		}
	}
}

// P7.4, P7.11: what is pledged twice, and since when, with the chapter's examples.
func TestTwice(t *testing.T) {
	for i, x := range []struct {
		p     api.Papers
		id    int
		twice uint8
		since int
	}{
		{example(), 1, api.KnownOpen, 1}, {example(), 2, api.KnownNo, -1}, {lent(), 4, api.KnownNo, -1}, {lent(term(0, 9, 0, 9)), 4, api.KnownNo, -1},
		{lent(term(0, 0, 5, 5), term(5, 5, 7, 7)), 4, api.KnownYes, 5}, {lent(term(0, 0, 4, 4), term(5, 5, 7, 7)), 4, api.KnownNo, -1}, {lent(term(5, 5, 7, 7), term(0, 0, 5, 5)), 4, api.KnownYes, 5}, {lent(term(0, 3, 2, 5), term(3, 4, 3, 6)), 4, api.KnownOpen, 3}, {lent(term(0, 0, 9, 9), term(4, 6, 4, 6)), 4, api.KnownYes, 4}, {lent(term(0, 0, 0, 9), term(9, 9, 9, 9)), 4, api.KnownOpen, 9}, {lent(term(2, 2, 2, 2), term(2, 2, 2, 2)), 4, api.KnownYes, 2}, {lent(term(0, 9, 0, 9), term(0, 9, 0, 9), term(0, 9, 0, 9)), 4, api.KnownOpen, 0},
		// No two meet for sure, but three do not fit into two days.
		{lent(term(2, 3, 2, 3), term(2, 3, 2, 3), term(2, 3, 2, 3)), 4, api.KnownYes, 2}, {lent(term(2, 3, 2, 3), term(2, 3, 2, 3), term(2, 4, 2, 4)), 4, api.KnownOpen, 2}, {lent(term(0, 1, 3, 4), term(4, 5, 5, 6), term(0, 0, 0, 0)), 4, api.KnownOpen, 0}, {lent(term(0, 0, 3, 3), term(3, 4, 5, 5), term(4, 4, 4, 9)), 4, api.KnownYes, 3},
		{lent(term(0, 0, 1, 1), term(3, 3, 3, 3), term(5, 5, 9, 9)), 4, api.KnownNo, -1},
	} {
		day, e := max(x.since, 0), api.OK
		if x.since < 0 {
			e = api.ErrNone
		}
		if k, f := paper.Twice(x.p, x.id); k != x.twice || f != api.OK {
			t.Error(i, k, f)
		}
		if n, f := paper.Since(x.p, x.id); n != day || f != e {
			t.Error(i, n, f)
		}
	}
}

// P7.4: whether a pledge is good, and to which bank it is, does not tell whether a paper is pledged twice.
func TestTwiceByAnybody(t *testing.T) {
	p := lent(term(0, 0, 5, 5), term(5, 5, 7, 7))
	p.Pledges[0].By, p.Pledges[1].Bank = 8, 90
	if k, e := paper.Twice(p, 4); k != api.KnownYes || e != api.OK {
		t.Error(k, e)
	}
	if n, e := paper.Since(p, 4); n != 5 || e != api.OK {
		t.Error(n, e)
	}
	if l, e := paper.Bank(p, 4, 5); !slices.Equal(l, ints(90)) || e != api.OK {
		t.Error(l, e)
	}
}

// P7.4: the banks of a day, with the chapter's examples.
func TestBank(t *testing.T) {
	falling := lent(term(0, 0, 9, 9), term(1, 1, 8, 9), term(2, 3, 3, 4))
	falling.Pledges[0].Bank, falling.Pledges[1].Bank, falling.Pledges[2].Bank = 9999, 5, 9999
	for i, x := range []struct {
		p    api.Papers
		id   int
		days [][]int
	}{
		{example(), 1, [][]int{{90}, {90, 91}, {91}, nil, nil, nil}}, {example(), 2, [][]int{nil, nil, nil, nil, {90}, {90}}}, {falling, 4, [][]int{{9999}, {5, 9999}, {5, 9999}, {5, 9999}, {5, 9999}, {5, 9999}, {5, 9999}, {5, 9999}, {5, 9999}, {5, 9999}}}, {lent(term(3, 9, 0, 3)), 4, [][]int{nil, nil, nil, {90}, nil, nil, nil, nil, nil, nil}}, {gone(2), 4, [][]int{nil, nil}},
	} {
		for day, want := range x.days {
			if l, e := paper.Bank(x.p, x.id, day); !slices.Equal(l, want) || e != api.OK {
				t.Error(i, day, l, e)
			}
		}
	}
}

// P7.5, P7.11: whose claim is before whose, with the chapter's examples.
func TestRank(t *testing.T) {
	for i, x := range []struct {
		a, b        [2]api.Span
		want, other uint8
	}{
		{term(0, 0, 9, 9), term(1, 1, 9, 9), api.KnownYes, api.KnownNo}, {term(0, 0, 9, 9), term(0, 0, 9, 9), api.KnownNo, api.KnownNo}, {term(0, 1, 9, 9), term(1, 1, 9, 9), api.KnownOpen, api.KnownNo}, {term(0, 1, 9, 9), term(1, 2, 9, 9), api.KnownOpen, api.KnownNo}, {term(0, 2, 9, 9), term(1, 2, 9, 9), api.KnownOpen, api.KnownOpen}, {term(0, 3, 2, 5), term(3, 4, 3, 6), api.KnownOpen, api.KnownNo},
		// The first day is not behind the last one.
		{term(0, 5, 2, 2), term(3, 4, 3, 6), api.KnownYes, api.KnownNo}, {term(0, 5, 2, 2), term(2, 4, 3, 6), api.KnownOpen, api.KnownNo}, {term(0, 9, 0, 9), term(0, 9, 0, 0), api.KnownNo, api.KnownOpen},
	} {
		p := lent(x.a, x.b)
		if k, e := paper.Rank(p, 1, 2); k != x.want || e != api.OK {
			t.Error(i, k, e)
		}
		if k, e := paper.Rank(p, 2, 1); k != x.other || e != api.OK {
			t.Error(i, k, e)
		}
	}
	for i, x := range []struct {
		one, other int
		want       uint8
		e          api.Errno
	}{{2, 3, api.KnownYes, api.OK}, {3, 2, api.KnownNo, api.OK}, {1, 2, 0, api.ErrArg}, {3, 3, 0, api.ErrArg}, {1, 9, 0, api.ErrNone}, {9, 9, 0, api.ErrNone}} {
		if k, e := paper.Rank(example(), x.one, x.other); k != x.want || e != x.e {
			t.Error(i, k, e)
		}
	}
}

// P7.6, N10: passes that must be false, with the chapter's example.
func TestWrong(t *testing.T) {
	for i, x := range []struct {
		p    api.Papers
		want []int
		e    api.Errno
	}{
		{example(), nil, api.OK}, {ring(), nil, api.OK}, {gone(1), nil, api.OK}, {full(), nil, api.OK}, {odd(), ints(7), api.OK}, {many(), nil, api.ErrMany}, {example(pass(7, 1, 6, 5, 0, 0), pass(8, 2, 9, 6, 0, 5)), ints(7, 8), api.OK},
		// Of two of which one must go the first one does.
		{gone(2, pass(3, 4, 5, 6, 0, 1), pass(5, 4, 5, 7, 0, 1)), ints(3), api.OK}, {gone(2, pass(3, 4, 5, 6, 1, 1), pass(5, 4, 6, 7, 0, 0)), ints(5), api.OK}, {gone(2, pass(3, 4, 6, 7, 0, 0), pass(5, 4, 5, 6, 1, 1)), ints(3), api.OK},
		{gone(3, pass(1, 4, 6, 7, 0, 0), pass(2, 4, 7, 8, 0, 0), pass(3, 4, 8, 9, 0, 0)), ints(1, 2, 3), api.OK},
		{gone(2, pass(1, 4, 6, 7, 0, 0), pass(2, 4, 7, 5, 0, 0), pass(3, 4, 5, 6, 1, 1)), ints(1, 2), api.OK},
		// Without the first two there is a truth too, but one alone is fewer.
		{gone(3, pass(1, 4, 5, 6, 2, 2), pass(2, 4, 6, 5, 2, 2), pass(3, 4, 5, 8, 0, 0)), ints(3), api.OK},
	} {
		if l, e := paper.Wrong(x.p); !slices.Equal(l, x.want) || e != x.e {
			t.Error(i, l, e)
		}
	}
	two := gone(1, pass(1, 4, 6, 7, 0, 0), pass(4, 4, 7, 8, 0, 0))
	two.Papers = append(two.Papers, sheet(9, 1, 5))
	two.Passes = append(two.Passes, pass(6, 9, 8, 9, 0, 0))
	if l, e := paper.Wrong(two); !slices.Equal(l, ints(1, 4, 6)) || e != api.OK {
		t.Error(l, e)
	}
	// Passes of all papers together are not more than three.
	two.Passes = append(two.Passes, pass(7, 9, 9, 8, 0, 0))
	if l, e := paper.Wrong(two); len(l) != 0 || e != api.ErrMany {
		t.Error(l, e)
	}
}
