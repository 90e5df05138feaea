package deliver_test

import (
	"math"
	"slices"
	"testing"

	"middling/api"
	"middling/deliver"
)

// P5.2, P5.14: whether a ware may go to a deal, and what it costs, with the chapter's examples.
func TestCanAndCost(t *testing.T) {
	late := changed(func(y *api.Yard) { y.Month = 4 })
	over := changed(func(y *api.Yard) { y.Month = 5 })
	early := changed(func(y *api.Yard) { y.Month = 2 })
	wide := changed(func(y *api.Yard) { y.Wares[0].Grades, y.Wares[0].Staples = span(1, 5), span(4, 9) })
	ends := changed(func(y *api.Yard) { y.Wares[0].Pence, y.Wares[1].Pence = 0, 1000000 })
	// The dearest class of all, and the cheapest one.
	dear := changed(func(y *api.Yard) { *y = dearest() })
	for i, x := range []struct {
		y          api.Yard
		ware, deal int
		known      uint8
		cost       int
		e, f       api.Errno // of Can, of Cost
	}{
		{example(1, 1), 10, 1, api.KnownYes, 5, api.OK, api.OK}, {example(1, 1), 10, 2, api.KnownYes, 15, api.OK, api.OK}, {example(1, 1), 20, 1, api.KnownYes, -10, api.OK, api.OK}, {example(1, 1), 20, 2, api.KnownOpen, -25, api.OK, api.OK}, {example(1, 1), 30, 1, api.KnownOpen, -50, api.OK, api.OK}, {example(1, 1), 30, 2, api.KnownNo, 0, api.OK, api.ErrNone},
		{late, 10, 1, api.KnownYes, 5, api.OK, api.OK}, {late, 20, 2, api.KnownOpen, -25, api.OK, api.OK}, {over, 10, 1, api.KnownNo, 0, api.OK, api.ErrNone}, {over, 20, 2, api.KnownNo, 0, api.OK, api.ErrNone}, {early, 30, 1, api.KnownNo, 0, api.OK, api.ErrNone},
		{wide, 10, 1, api.KnownYes, 30, api.OK, api.OK}, {wide, 10, 2, api.KnownOpen, 30, api.OK, api.OK}, {ends, 10, 1, api.KnownYes, -1000, api.OK, api.OK}, {ends, 20, 1, api.KnownYes, 999040, api.OK, api.OK}, {dear, 1, 1, api.KnownYes, -1002000, api.OK, api.OK}, {dear, 2, 2, api.KnownYes, 999999, api.OK, api.OK}, {dear, 1, 2, api.KnownYes, -1, api.OK, api.OK}, {dear, 2, 1, api.KnownYes, -2000, api.OK, api.OK},
		{example(1, 1), 11, 1, 0, 0, api.ErrNone, api.ErrNone}, {example(1, 1), 10, 3, 0, 0, api.ErrNone, api.ErrNone}, {example(1, 1), 1, 10, 0, 0, api.ErrNone, api.ErrNone}, {example(1, 1), 0, 0, 0, 0, api.ErrNone, api.ErrNone}, {example(1, 1), 10, 0, 0, 0, api.ErrNone, api.ErrNone}, {example(1, 1), math.MinInt, 1, 0, 0, api.ErrNone, api.ErrNone}, {example(1, 1), 10, math.MaxInt, 0, 0, api.ErrNone, api.ErrNone}, {api.Yard{}, 0, 0, 0, 0, api.ErrNone, api.ErrNone}, {broken(), 0, 0, 0, 0, api.ErrYard, api.ErrYard},
	} {
		if k, e := deliver.Can(x.y, x.ware, x.deal); k != x.known || e != x.e {
			t.Error(i, k, e)
		}
		if n, e := deliver.Cost(x.y, x.ware, x.deal); n != x.cost || e != x.f {
			t.Error(i, n, e)
		}
	}
}

// dearest has the deal whose invoice is the greatest that there can be, and one whose invoices are the least, and wares for nothing and at most.
func dearest() api.Yard {
	y := api.Yard{Deals: []api.Deal{flat(1, 1000000, 9, 1), flat(2, 1, 9, 1)}, Wares: []api.Ware{ware(1, 1, 1, 9, 0), ware(2, 1, 1, 9, 1000000)}}
	y.Deals[0].Terms.Grades[0], y.Deals[0].Terms.Staples[8] = 1000, 1000
	y.Deals[0].Terms.Due, y.Deals[1].Terms.Due = span(0, 60), span(0, 0)
	return y
}

// told is all that a yard's best plans tell.
type told struct {
	y                   api.Yard
	plan, spare, sure   []int
	bales, risks, pence int
	wares, deals        []int // prices
}

func (x told) agrees() bool {
	l, e := deliver.Plan(x.y)
	a, b, c, f := deliver.Value(x.y)
	spare, g := deliver.Spare(x.y)
	sure, h := deliver.Sure(x.y)
	p, q, j := deliver.Prices(x.y)
	for _, e := range []api.Errno{e, f, g, h, j} {
		if e != api.OK {
			return false
		}
	}
	return slices.Equal(l, x.plan) && a == x.bales && b == x.risks && c == x.pence && slices.Equal(spare, x.spare) && slices.Equal(sure, x.sure) && slices.Equal(p, x.wares) && slices.Equal(q, x.deals)
}

// P5.3, P5.4, P5.6: the best plan, with the chapter's examples.
func TestBestPlan(t *testing.T) {
	over := changed(func(y *api.Yard) { y.Month = 5 })
	// Who goes to the deal 3 alone brings less there than who could go to both.
	choosy := even(ints(1, 1), 1, 900)
	choosy.Deals[1].Terms.Worst = 4
	choosy.Wares[1].Grades = span(4, 4)
	for i, x := range []told{
		{example(1, 1), ints(2, 1, 0), ints(30), ints(2, 1, 0), 2, 0, 5, ints(39999920, 19999960, 0), ints(980000050, 960000065)},
		{example(2, 1), ints(2, 1, 1), nil, ints(2, 1, 1), 3, 1, -45, ints(999999985, 1000000000, 980000040), ints(10, 0)},
		{over, ints(0, 0, 0), ints(10, 20, 30), ints(0, 0, 0), 0, 0, 0, ints(0, 0, 0), ints(0, 0)}, {api.Yard{}, nil, nil, nil, 0, 0, 0, nil, nil}, {even(ints(1, 20)), nil, nil, nil, 0, 0, 0, nil, ints(0, 0)}, {even(nil, 5, 5), ints(0, 0), ints(10, 20), ints(0, 0), 0, 0, 0, ints(0, 0), nil},
		// Wares and deals that are alike.
		{even(ints(1, 1), 900, 900), ints(3, 5), nil, ints(-1, -1), 2, 0, -200, ints(1000000100, 1000000100), ints(0, 0)}, {even(ints(1, 1), 900, 900, 900), ints(0, 3, 5), ints(10, 20, 30), ints(-1, -1, -1), 2, 0, -200, ints(0, 0, 0), ints(1000000100, 1000000100)}, {even(ints(1, 1), 900, 900, 950), ints(3, 5, 0), ints(30), ints(-1, -1, 0), 2, 0, -200, ints(50, 50, 0), ints(1000000050, 1000000050)}, {even(ints(1), 1200), ints(3), nil, ints(3), 1, 0, 200, ints(999999800), ints(0)}, {even(ints(1), 900, 900), ints(0, 3), ints(10, 20), ints(-1, -1), 1, 0, -100, ints(0, 0), ints(1000000100)}, {even(ints(20, 20, 20), 1, 1, 1, 1, 1, 1), ints(3, 3, 3, 3, 3, 3), nil, ints(-1, -1, -1, -1, -1, -1), 6, 0, -5994, slices.Repeat(ints(1000000999), 6), ints(0, 0, 0)},
		{choosy, ints(3, 5), nil, ints(3, 5), 2, 0, -1099, ints(1000000999, 1000000100), ints(0, 0)},
	} {
		if !x.agrees() {
			l, _ := deliver.Plan(x.y)
			a, b, c, _ := deliver.Value(x.y)
			spare, _ := deliver.Spare(x.y)
			sure, _ := deliver.Sure(x.y)
			p, q, _ := deliver.Prices(x.y)
			t.Error(i, l, a, b, c, spare, sure, p, q)
		}
	}
}

// P5.3, P5.8: one ware more counts for more than any risks, one risk less for more than any costs.
func TestWhatComesFirst(t *testing.T) {
	// To the deal 3 all wares go for nothing at a risk, or else, to the deal 5, for all that they bring.
	y := even(ints(6, 6), 1000000, 1000000, 1000000, 1000000, 1000000, 1000000)
	y.Deals[0].Terms.Price, y.Deals[1].Terms.Price, y.Deals[1].Terms.Worst = 1000000, 1, 9
	for i := range y.Wares {
		y.Wares[i].Grades = span(8, 9)
	}
	safe := told{y, slices.Repeat(ints(5), 6), nil, slices.Repeat(ints(5), 6), 6, 0, 5999994, slices.Repeat(ints(999000001), 6), ints(0, 0)}
	if !safe.agrees() {
		t.Error(deliver.Plan(y))
	}
	few := copied(y)
	few.Deals[1].Terms.Bales = 1
	if a, b, c, e := deliver.Value(few); a != 6 || b != 5 || c != 999999 || e != api.OK {
		t.Error(a, b, c, e)
	}
	if n, e := deliver.Worse(few, ints(0, 0, 0, 0, 0, 5)); n != 5*980000000 || e != api.OK {
		t.Error(n, e)
	}
	if n, e := deliver.Worse(y, slices.Repeat(ints(3), 6)); n != 6*20000000-5999994 || e != api.OK {
		t.Error(n, e)
	}
}

// P5.5, P5.10: the deals that lack the most, with the chapter's examples.
func TestLacks(t *testing.T) {
	three := example(2, 2)
	three.Deals = append(three.Deals, flat(9, 1000, 9, 2))
	three.Deals[2].Terms.Due = span(9, 9)
	// The wares may go to the deal 5 alone. If there is one, the others lack as much with it as without.
	worse := even(ints(1, 1, 1), 1, 1)
	worse.Deals[0].Terms.Worst, worse.Deals[2].Terms.Worst = 4, 4
	fewer := copied(worse)
	fewer.Wares = fewer.Wares[:1]
	for i, x := range []struct {
		y    api.Yard
		want []int
		n    int
		e    api.Errno
	}{
		{example(1, 1), nil, 0, api.ErrNone}, {example(2, 2), ints(1, 2), 1, api.OK}, {example(1, 3), ints(2), 1, api.OK}, {example(1, 2), nil, 0, api.ErrNone}, {example(3, 1), ints(1, 2), 1, api.OK}, {example(2, 1), nil, 0, api.ErrNone}, {example(20, 20), ints(1, 2), 37, api.OK}, {example(3, 20), ints(1, 2), 20, api.OK}, {example(1, 20), ints(2), 18, api.OK},
		{three, ints(1, 2, 9), 3, api.OK}, {worse, ints(3, 7), 2, api.OK}, {fewer, ints(3, 7), 2, api.OK}, {even(ints(1, 1), 1), ints(3, 5), 1, api.OK}, {even(ints(1, 1, 1), 1, 1, 1), nil, 0, api.ErrNone}, {even(ints(1, 1, 1), 1, 1), ints(3, 5, 7), 1, api.OK}, {even(ints(2)), ints(3), 2, api.OK}, {even(ints(2), 1), ints(3), 1, api.OK}, {even(nil, 1), nil, 0, api.ErrNone}, {api.Yard{}, nil, 0, api.ErrNone}, {broken(), nil, 0, api.ErrYard},
	} {
		if l, n, e := deliver.Lacks(x.y); !slices.Equal(l, x.want) || n != x.n || e != x.e {
			t.Error(i, l, n, e)
		}
	}
}

// P5.6: what is left without a ware, with the chapter's examples.
func TestWithout(t *testing.T) {
	for i, x := range []struct {
		y                   api.Yard
		ware                int
		bales, risks, pence int
		e                   api.Errno
	}{
		{example(1, 1), 10, 2, 2, -75, api.OK}, {example(1, 1), 20, 2, 1, -35, api.OK}, {example(1, 1), 30, 2, 0, 5, api.OK}, {example(3, 3), 20, 2, 1, -45, api.OK}, {even(ints(1), 900), 10, 0, 0, 0, api.OK}, {even(ints(1), 900, 950), 10, 1, 0, -50, api.OK}, {even(ints(1), 900, 950), 20, 1, 0, -100, api.OK}, {even(nil, 900), 10, 0, 0, 0, api.OK},
		{example(1, 1), 1, 0, 0, 0, api.ErrNone}, {example(1, 1), 0, 0, 0, 0, api.ErrNone}, {example(1, 1), -1, 0, 0, 0, api.ErrNone}, {example(1, 1), math.MaxInt, 0, 0, 0, api.ErrNone}, {example(1, 1), math.MinInt, 0, 0, 0, api.ErrNone}, {api.Yard{}, 10, 0, 0, 0, api.ErrNone}, {broken(), 0, 0, 0, 0, api.ErrYard},
	} {
		if a, b, c, e := deliver.Without(x.y, x.ware); a != x.bales || b != x.risks || c != x.pence || e != x.e {
			t.Error(i, a, b, c, e)
		}
	}
}

// P5.3: plans of others, with the chapter's examples.
func TestJudge(t *testing.T) {
	for i, x := range []struct {
		y                   api.Yard
		plan                []int
		bales, risks, pence int
		worse               int
		e                   api.Errno
	}{
		{example(1, 1), ints(2, 1, 0), 2, 0, 5, 0, api.OK}, {example(1, 1), ints(1, 2, 0), 2, 1, -20, 19999975, api.OK}, {example(1, 1), ints(0, 0, 0), 0, 0, 0, 1999999995, api.OK}, {example(1, 1), ints(0, 2, 1), 2, 2, -75, 39999920, api.OK}, {example(1, 1), ints(1, 0, 0), 1, 0, 5, 1000000000, api.OK}, {example(1, 1), ints(0, 0, 1), 1, 1, -50, 1999999995 - 980000050, api.OK}, {example(2, 1), ints(1, 1, 0), 2, 0, -5, 980000040, api.OK}, {example(3, 1), ints(1, 1, 1), 3, 1, -55, 0, api.OK}, {even(ints(1, 1), 900, 900, 900), ints(5, 0, 3), 2, 0, -200, 0, api.OK}, {api.Yard{}, nil, 0, 0, 0, 0, api.OK}, {api.Yard{}, ints(), 0, 0, 0, 0, api.OK},
		{example(1, 1), ints(1, 1, 0), 0, 0, 0, 0, api.ErrPlan}, {example(1, 1), ints(2, 1, 2), 0, 0, 0, 0, api.ErrPlan}, {example(1, 3), ints(2, 2, 2), 0, 0, 0, 0, api.ErrPlan}, {example(2, 1), ints(1, 1, 1), 0, 0, 0, 0, api.ErrPlan}, {example(1, 1), ints(2, 1), 0, 0, 0, 0, api.ErrPlan}, {example(1, 1), ints(2, 1, 0, 0), 0, 0, 0, 0, api.ErrPlan}, {example(1, 1), ints(2, 3, 0), 0, 0, 0, 0, api.ErrPlan}, {example(1, 1), ints(2, -1, 0), 0, 0, 0, 0, api.ErrPlan}, {example(1, 1), ints(10, 0, 0), 0, 0, 0, 0, api.ErrPlan}, {example(1, 1), ints(0, 0, math.MaxInt), 0, 0, 0, 0, api.ErrPlan}, {example(1, 1), ints(math.MinInt, 0, 0), 0, 0, 0, 0, api.ErrPlan}, {example(1, 1), nil, 0, 0, 0, 0, api.ErrPlan}, {api.Yard{}, ints(0), 0, 0, 0, 0, api.ErrPlan}, {even(ints(1)), ints(3), 0, 0, 0, 0, api.ErrPlan}, {broken(), nil, 0, 0, 0, 0, api.ErrYard},
	} {
		if a, b, c, e := deliver.Judge(x.y, x.plan); a != x.bales || b != x.risks || c != x.pence || e != x.e {
			t.Error(i, a, b, c, e)
		}
		if n, e := deliver.Worse(x.y, x.plan); n != x.worse || e != x.e {
			t.Error(i, n, e)
		}
	}
}
