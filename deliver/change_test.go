package deliver_test

import (
	"math"
	"slices"
	"testing"

	"middling/api"
	"middling/deliver"
	"middling/testhelp"
)

// P5.7: a ware more, in its place.
func TestPut(t *testing.T) {
	five := full()
	five.Wares = five.Wares[:5]
	for i, x := range []struct {
		y  api.Yard
		x  api.Ware
		at int
		e  api.Errno
	}{
		{example(1, 1), ware(15, 1, 9, 9, 1000000), 1, api.OK}, {example(1, 1), ware(9999, 9, 9, 1, 0), 3, api.OK}, {example(1, 1), ware(1, 1, 1, 1, 0), 0, api.OK}, {api.Yard{}, ware(5, 4, 4, 5, 7), 0, api.OK}, {five, ware(45, 4, 4, 5, 7), 4, api.OK}, {five, ware(60, 4, 4, 5, 7), 5, api.OK},
		{full(), ware(45, 4, 4, 5, 7), 0, api.ErrFull}, {full(), api.Ware{}, 0, api.ErrFull}, {full(), ware(10, 4, 4, 5, 7), 0, api.ErrFull},
		{example(1, 1), api.Ware{}, 0, api.ErrWare}, {example(1, 1), ware(10, 1, 9, 9, 0), 0, api.ErrWare}, {example(1, 1), ware(30, 6, 7, 4, 900), 0, api.ErrWare}, {example(1, 1), ware(0, 1, 9, 9, 0), 0, api.ErrWare}, {example(1, 1), ware(-1, 1, 9, 9, 0), 0, api.ErrWare}, {example(1, 1), ware(10000, 1, 9, 9, 0), 0, api.ErrWare}, {example(1, 1), ware(math.MaxInt, 1, 9, 9, 0), 0, api.ErrWare}, {example(1, 1), ware(math.MinInt, 1, 9, 9, 0), 0, api.ErrWare},
		{example(1, 1), ware(5, 0, 9, 9, 0), 0, api.ErrWare}, {example(1, 1), ware(5, 1, 10, 9, 0), 0, api.ErrWare}, {example(1, 1), ware(5, 3, 2, 9, 0), 0, api.ErrWare}, {example(1, 1), ware(5, 1, 9, 10, 0), 0, api.ErrWare}, {example(1, 1), ware(5, 1, 9, 0, 0), 0, api.ErrWare}, {example(1, 1), ware(5, 1, 9, 9, -1), 0, api.ErrWare}, {example(1, 1), ware(5, 1, 9, 9, 1000001), 0, api.ErrWare}, {broken(), ware(5, 1, 9, 9, 0), 0, api.ErrYard}, {broken(), api.Ware{}, 0, api.ErrYard},
	} {
		want := api.Yard{}
		if x.e == api.OK {
			want = copied(x.y)
			want.Wares = slices.Insert(want.Wares, x.at, x.x)
		}
		if y, e := deliver.Put(x.y, x.x); e != x.e || !same(y, want) {
			t.Error(i, y, e)
		}
	}
}

// P5.7: a deal more, in its place.
func TestSign(t *testing.T) {
	three := full()
	three.Wares = nil
	free := flat(5, 1, 9, 1)
	free.Terms.Price = 0
	low := deal(5, 1000, 6, 4, 1)
	low.Terms.Grades = nil
	for i, x := range []struct {
		y  api.Yard
		x  api.Deal
		at int
		e  api.Errno
	}{
		{example(1, 1), flat(3, 1, 9, 20), 2, api.OK}, {example(1, 1), flat(9999, 1000000, 4, 1), 2, api.OK}, {even(ints(1, 1), 5), deal(4, 1000, 6, 4, 1), 1, api.OK}, {even(ints(1, 1), 5), deal(1, 1000, 6, 4, 1), 0, api.OK}, {api.Yard{}, flat(7, 1, 9, 1), 0, api.OK},
		{full(), flat(9, 1, 9, 1), 0, api.ErrFull}, {three, api.Deal{}, 0, api.ErrFull}, {full(), flat(5, 1, 9, 1), 0, api.ErrFull},
		{example(1, 1), api.Deal{}, 0, api.ErrDeal}, {example(1, 1), flat(1, 1, 9, 1), 0, api.ErrDeal}, {example(1, 1), flat(2, 1, 9, 1), 0, api.ErrDeal}, {example(1, 1), flat(0, 1, 9, 1), 0, api.ErrDeal}, {example(1, 1), flat(-1, 1, 9, 1), 0, api.ErrDeal}, {example(1, 1), flat(10000, 1, 9, 1), 0, api.ErrDeal}, {example(1, 1), flat(math.MaxInt, 1, 9, 1), 0, api.ErrDeal}, {example(1, 1), flat(math.MinInt, 1, 9, 1), 0, api.ErrDeal},
		{example(1, 1), free, 0, api.ErrDeal}, {example(1, 1), low, 0, api.ErrDeal}, {example(1, 1), flat(5, 1, 9, 21), 0, api.ErrDeal}, {example(1, 1), flat(5, 1, 3, 1), 0, api.ErrDeal}, {broken(), flat(5, 1, 9, 1), 0, api.ErrYard}, {broken(), api.Deal{}, 0, api.ErrYard},
	} {
		want := api.Yard{}
		if x.e == api.OK {
			want = copied(x.y)
			want.Deals = slices.Insert(want.Deals, x.at, x.x)
		}
		if y, e := deliver.Sign(x.y, x.x); e != x.e || !same(y, want) {
			t.Error(i, y, e)
		}
	}
}

// P5.7: a ware less.
func TestTake(t *testing.T) {
	for i, x := range []struct {
		y    api.Yard
		ware int
		want []int
		e    api.Errno
	}{
		{example(1, 1), 10, ints(20, 30), api.OK}, {example(1, 1), 20, ints(10, 30), api.OK}, {example(1, 1), 30, ints(10, 20), api.OK}, {full(), 60, ints(10, 20, 30, 40, 50), api.OK}, {even(nil, 5), 10, nil, api.OK},
		{example(1, 1), 1, nil, api.ErrNone}, {example(1, 1), 0, nil, api.ErrNone}, {example(1, 1), 15, nil, api.ErrNone}, {example(1, 1), -10, nil, api.ErrNone}, {example(1, 1), 10000, nil, api.ErrNone}, {example(1, 1), math.MinInt, nil, api.ErrNone}, {api.Yard{}, 10, nil, api.ErrNone}, {broken(), 30, nil, api.ErrYard},
	} {
		want := api.Yard{}
		if x.e == api.OK {
			want = copied(x.y)
			want.Wares = slices.DeleteFunc(want.Wares, func(z api.Ware) bool { return z.Id == x.ware })
		}
		if y, e := deliver.Take(x.y, x.ware); e != x.e || !same(y, want) || !slices.Equal(wareIds(y), x.want) {
			t.Error(i, y, e)
		}
	}
}

// P5.7: a deal less.
func TestDrop(t *testing.T) {
	for i, x := range []struct {
		y    api.Yard
		deal int
		want []int
		e    api.Errno
	}{
		{example(1, 1), 1, ints(2), api.OK}, {example(1, 1), 2, ints(1), api.OK}, {full(), 2, ints(1, 5), api.OK}, {even(ints(4), 5), 3, nil, api.OK},
		{example(1, 1), 10, nil, api.ErrNone}, {example(1, 1), 0, nil, api.ErrNone}, {example(1, 1), 3, nil, api.ErrNone}, {example(1, 1), -1, nil, api.ErrNone}, {example(1, 1), math.MaxInt, nil, api.ErrNone}, {api.Yard{}, 1, nil, api.ErrNone}, {broken(), 1, nil, api.ErrYard},
	} {
		want := api.Yard{}
		if x.e == api.OK {
			want = copied(x.y)
			want.Deals = slices.DeleteFunc(want.Deals, func(d api.Deal) bool { return d.Id == x.deal })
		}
		if y, e := deliver.Drop(x.y, x.deal); e != x.e || !same(y, want) || !slices.Equal(dealIds(y), x.want) {
			t.Error(i, y, e)
		}
	}
}

// roomyDeal has tables with capacity behind their ends, in which nothing may be written.
func roomyDeal(d api.Deal) api.Deal {
	d.Terms.Grades, d.Terms.Staples = testhelp.Grown(d.Terms.Grades), testhelp.Grown(d.Terms.Staples)
	return d
}

// roomy is a yard whose lists are so too.
func roomy() api.Yard {
	y := example(1, 1)
	for i, d := range y.Deals {
		y.Deals[i] = roomyDeal(d)
	}
	y.Deals, y.Wares = testhelp.Grown(y.Deals), testhelp.Grown(y.Wares)
	return y
}

// whole is a copy of a yard with all that is behind the ends of its lists.
func whole(y api.Yard) api.Yard {
	y.Deals, y.Wares = slices.Clone(y.Deals[:cap(y.Deals)]), y.Wares[:cap(y.Wares)]
	for i, d := range y.Deals {
		y.Deals[i].Terms.Grades, y.Deals[i].Terms.Staples = d.Terms.Grades[:cap(d.Terms.Grades)], d.Terms.Staples[:cap(d.Terms.Staples)]
	}
	return copied(y)
}

// P1, R3: no argument is written to, also not behind its end.
func TestArgumentsStay(t *testing.T) {
	y, plan := roomy(), testhelp.Grown(ints(2, 1, 0))
	before := whole(y)
	extra := roomyDeal(flat(5, 1000, 8, 2))
	for _, c := range calls() {
		for _, n := range ints(10, 15, 20, 30) {
			if is, e := c.do(y, asks{n, n / 10, plan, ware(n, 4, 5, 5, 0), deal(n, 1000, 6, 4, 1)}); e != api.OK && !is {
				t.Error(c.name, is, e)
			}
		}
	}
	if _, e := deliver.Sign(y, extra); e != api.OK {
		t.Error(e)
	}
	if !same(whole(y), before) {
		t.Error(whole(y))
	}
	if !slices.Equal(plan[:cap(plan)], append(ints(2, 1, 0), make([]int, cap(plan)-3)...)) {
		t.Error(plan[:cap(plan)])
	}
	if !same(whole(api.Yard{Deals: []api.Deal{extra}}), whole(api.Yard{Deals: []api.Deal{roomyDeal(flat(5, 1000, 8, 2))}})) {
		t.Error(extra)
	}
}

// spoil writes over all memory of a yard.
func spoil(y api.Yard) {
	for _, d := range y.Deals {
		testhelp.Spoil(d.Terms.Grades, 77)
		testhelp.Spoil(d.Terms.Staples, 77)
	}
	testhelp.Spoil(y.Deals, flat(77, 7, 7, 7))
	testhelp.Spoil(y.Wares, ware(77, 7, 7, 7, 7))
}

// P1, R3: a result shares no memory with an argument, nor with another result.
func TestResultsAreNew(t *testing.T) {
	y := roomy()
	before := whole(y)
	extra := roomyDeal(deal(3, 1000, 6, 4, 1))
	put, _ := deliver.Put(y, ware(40, 1, 1, 1, 0))
	take, _ := deliver.Take(y, 30)
	sign, _ := deliver.Sign(y, extra)
	drop, _ := deliver.Drop(y, 2)
	again, _ := deliver.Take(put, 40)
	signed, _ := deliver.Sign(drop, extra)
	results := []api.Yard{put, take, sign, drop, again, signed}
	if slices.ContainsFunc(results, func(x api.Yard) bool { return len(x.Deals) == 0 || len(x.Wares) == 0 }) {
		t.Error(results)
	}
	if !testhelp.Apart(results, copied, same, spoil) || !same(whole(y), before) || !sameDeal(extra, deal(3, 1000, 6, 4, 1)) {
		t.Error(whole(y), extra)
	}
}

// P1, R3: nothing is remembered, also not by a list that is told; two lists of a result share no memory.
func TestListsAreNew(t *testing.T) {
	for range 2 {
		plan, e := deliver.Plan(example(1, 1))
		sure, f := deliver.Sure(example(1, 1))
		spare, g := deliver.Spare(example(1, 1))
		lacks, n, h := deliver.Lacks(example(2, 2))
		wares, deals, i := deliver.Prices(example(1, 1))
		results := [][]int{plan, sure, spare, lacks, wares, deals}
		want := [][]int{ints(2, 1, 0), ints(2, 1, 0), ints(30), ints(1, 2), ints(39999920, 19999960, 0), ints(980000050, 960000065)}
		if !slices.EqualFunc(results, want, slices.Equal) || n != 1 || slices.ContainsFunc([]api.Errno{e, f, g, h, i}, func(e api.Errno) bool { return e != api.OK }) {
			t.Error(results, n, e, f, g, h, i)
		}
		if !testhelp.Apart(results, slices.Clone, slices.Equal, func(l []int) { testhelp.Spoil(l, 77) }) {
			t.Error(results)
		}
	}
}

// P1, R4: nil lists and empty ones are the same.
func TestNilAndEmpty(t *testing.T) {
	a, b := api.Yard{Month: 3}, api.Yard{Month: 3, Deals: []api.Deal{}, Wares: []api.Ware{}}
	for _, c := range calls() {
		for _, plan := range [][]int{nil, ints(), ints(0)} {
			x := asks{ware: 1, deal: 1, plan: plan, put: ware(1, 1, 1, 1, 1), sign: flat(1, 1, 9, 1)}
			is, e := c.do(a, x)
			if also, f := c.do(b, x); e != f || is != also {
				t.Error(c.name, is, e, also, f)
			}
		}
	}
	for _, y := range []api.Yard{a, b} {
		if x, e := deliver.Put(y, ware(1, 1, 1, 1, 1)); len(x.Wares) != 1 || len(x.Deals) != 0 || x.Month != 3 || e != api.OK {
			t.Error(x, e)
		}
		if x, e := deliver.Sign(y, flat(1, 1, 9, 1)); len(x.Wares) != 0 || len(x.Deals) != 1 || x.Month != 3 || e != api.OK {
			t.Error(x, e)
		}
		for _, plan := range [][]int{nil, ints()} {
			if a, b, c, e := deliver.Judge(y, plan); a != 0 || b != 0 || c != 0 || e != api.OK {
				t.Error(a, b, c, e)
			}
		}
	}
	d := deal(3, 1000, 6, 4, 1)
	for _, l := range [][]int{nil, {}} {
		d.Terms.Staples = l
		if _, e := deliver.Sign(a, d); e != api.ErrDeal {
			t.Error(e)
		}
	}
}
