package chain_test

import (
	"math"
	"slices"
	"testing"

	"middling/api"
	"middling/chain"
	"middling/testhelp"
)

// P6.7: a sale more, in its place.
func TestPut(t *testing.T) {
	nine := full()
	nine.Sales = slices.Delete(nine.Sales, 6, 7)
	gap := changed(func(c *api.Chain) { c.Sales = slices.Delete(c.Sales, 2, 3) })
	for i, x := range []struct {
		c  api.Chain
		x  api.Sale
		at int
		e  api.Errno
	}{
		{gap, sale(3, 4, 3, 9, 1000000), 2, api.OK}, {gap, sale(3, 3, 1, 3, 520), 2, api.OK}, {example(), sale(9999, 4, 3, 1, 0), 5, api.OK}, {nine, sale(20, 5, 6, 9, 0), 6, api.OK}, {simple(2), sale(1, 2, 1, 1, 0), 0, api.OK}, {changed(func(c *api.Chain) { c.Sales = c.Sales[1:] }), sale(1, 2, 1, 1, 0), 0, api.OK},
		{full(), sale(50, 1, 2, 1, 0), 0, api.ErrFull}, {full(), api.Sale{}, 0, api.ErrFull}, {full(), sale(10, 1, 2, 1, 0), 0, api.ErrFull},
		{example(), api.Sale{}, 0, api.ErrSale}, {example(), sale(3, 4, 3, 1, 0), 0, api.ErrSale}, {example(), sale(3, 3, 1, 3, 520), 0, api.ErrSale}, {example(), sale(0, 4, 3, 1, 0), 0, api.ErrSale}, {example(), sale(-1, 4, 3, 1, 0), 0, api.ErrSale}, {example(), sale(10000, 4, 3, 1, 0), 0, api.ErrSale}, {example(), sale(math.MaxInt, 4, 3, 1, 0), 0, api.ErrSale}, {example(), sale(math.MinInt, 4, 3, 1, 0), 0, api.ErrSale},
		{example(), sale(6, 5, 3, 1, 0), 0, api.ErrSale}, {example(), sale(6, 4, 0, 1, 0), 0, api.ErrSale}, {example(), sale(6, 4, 4, 1, 0), 0, api.ErrSale}, {example(), sale(6, 4, 3, 10, 0), 0, api.ErrSale}, {example(), sale(6, 4, 3, 0, 0), 0, api.ErrSale}, {example(), sale(6, 4, 3, math.MinInt, 0), 0, api.ErrSale}, {example(), sale(6, 4, 3, 1, -1), 0, api.ErrSale}, {example(), sale(6, 4, 3, 1, 1000001), 0, api.ErrSale}, {api.Chain{}, sale(1, 1, 2, 1, 1), 0, api.ErrSale}, {broken(), sale(6, 4, 3, 1, 0), 0, api.ErrChain}, {broken(), api.Sale{}, 0, api.ErrChain},
	} {
		want := api.Chain{}
		if x.e == api.OK {
			want = copied(x.c)
			want.Sales = slices.Insert(want.Sales, x.at, x.x)
		}
		if c, e := chain.Put(x.c, x.x); e != x.e || !same(c, want) {
			t.Error(i, c, e)
		}
	}
}

// P6.7: some sales less.
func TestStrike(t *testing.T) {
	for i, x := range []struct {
		c         api.Chain
		out, want []int
		e         api.Errno
	}{
		{example(), nil, ints(1, 2, 3, 4, 5), api.OK}, {example(), ints(3), ints(1, 2, 4, 5), api.OK}, {example(), ints(1, 5), ints(2, 3, 4), api.OK}, {example(), ints(1, 2, 3, 4, 5), nil, api.OK}, {full(), ints(10, 9999), ints(1, 2, 3, 4, 5, 20, 30, 40), api.OK}, {api.Chain{}, nil, nil, api.OK},
		{example(), ints(5, 1), nil, api.ErrSale}, {example(), ints(1, 1), nil, api.ErrSale}, {example(), ints(6), nil, api.ErrSale}, {example(), ints(1, 6), nil, api.ErrSale}, {example(), ints(0, 1), nil, api.ErrSale}, {example(), ints(math.MinInt), nil, api.ErrSale}, {example(), ints(5, math.MaxInt), nil, api.ErrSale}, {example(), ints(1, 2, 3, 4, 5, 6), nil, api.ErrSale}, {api.Chain{}, ints(1), nil, api.ErrSale}, {broken(), ints(1), nil, api.ErrChain}, {broken(), ints(5, 1), nil, api.ErrChain},
	} {
		want := api.Chain{}
		if x.e == api.OK {
			want = copied(x.c)
			want.Sales = slices.DeleteFunc(want.Sales, func(s api.Sale) bool { return slices.Contains(x.out, s.Number) })
		}
		if c, e := chain.Strike(x.c, x.out); e != x.e || !same(c, want) || !slices.Equal(numbersOf(c), x.want) {
			t.Error(i, c, e)
		}
	}
}

// P6.7: without all sales of a house, which stays.
func TestStop(t *testing.T) {
	for i, x := range []struct {
		c     api.Chain
		house int
		want  []int
		e     api.Errno
	}{
		{example(), 1, ints(2, 4), api.OK}, {example(), 2, ints(3, 5), api.OK}, {example(), 3, ints(1, 4), api.OK}, {example(), 4, ints(1, 2, 3, 5), api.OK}, {full(), 5, ints(1, 2, 3, 4, 5, 40, 9999), api.OK}, {simple(3, [3]int{1, 2, 1}), 3, ints(1), api.OK}, {simple(3, [3]int{1, 2, 1}), 2, nil, api.OK}, {simple(1), 1, nil, api.OK},
		{example(), 5, nil, api.ErrNone}, {example(), 0, nil, api.ErrNone}, {example(), -1, nil, api.ErrNone}, {example(), math.MaxInt, nil, api.ErrNone}, {api.Chain{}, 1, nil, api.ErrNone}, {broken(), 5, nil, api.ErrChain}, {broken(), 1, nil, api.ErrChain},
	} {
		want := api.Chain{}
		if x.e == api.OK {
			want = copied(x.c)
			want.Sales = slices.DeleteFunc(want.Sales, func(s api.Sale) bool { return s.Seller == x.house || s.Buyer == x.house })
		}
		if c, e := chain.Stop(x.c, x.house); e != x.e || !same(c, want) || !slices.Equal(numbersOf(c), x.want) {
			t.Error(i, c, e)
		}
	}
}

// roomy is the chain of the examples, whose lists have capacity behind their ends, in which nothing may be written.
func roomy() api.Chain {
	c := example()
	return api.Chain{Houses: testhelp.Grown(c.Houses), Sales: testhelp.Grown(c.Sales)}
}

// whole is a copy of a chain with all that is behind the ends of its lists.
func whole(c api.Chain) api.Chain {
	return copied(api.Chain{Houses: c.Houses[:cap(c.Houses)], Sales: c.Sales[:cap(c.Sales)]})
}

// P1, R3: no argument is written to, also not behind its end.
func TestArgumentsStay(t *testing.T) {
	c, numbers := roomy(), testhelp.Grown(ints(2, 5))
	before := whole(c)
	for _, f := range calls() {
		for _, n := range ints(1, 2, 3, 5, 7) {
			for _, x := range []asks{{n, 1, n, 500, span(500, 520), sale(n, 4, 1, 2, 500), numbers}, {4, n, n, n, span(n, 7), sale(9, 3, 2, n, n), numbers}} {
				if is, e := f.do(c, x); e != api.OK && !is {
					t.Error(f.name, is, e)
				}
			}
		}
	}
	if !same(whole(c), before) {
		t.Error(whole(c))
	}
	if !slices.Equal(numbers[:cap(numbers)], append(ints(2, 5), make([]int, cap(numbers)-2)...)) {
		t.Error(numbers[:cap(numbers)])
	}
}

// spoil writes over all memory of a chain.
func spoil(c api.Chain) {
	testhelp.Spoil(c.Houses, 77)
	testhelp.Spoil(c.Sales, sale(77, 7, 7, 7, 7))
}

// P1, R3: a result shares no memory with an argument, nor with another result.
func TestResultsAreNew(t *testing.T) {
	c := roomy()
	before := whole(c)
	put, _ := chain.Put(c, sale(6, 4, 1, 2, 500))
	strike, _ := chain.Strike(c, ints(2))
	none, _ := chain.Strike(c, nil)
	stop, _ := chain.Stop(c, 4)
	again, _ := chain.Strike(put, nil)
	also, _ := chain.Stop(put, 3)
	results := []api.Chain{put, strike, none, stop, again, also}
	if slices.ContainsFunc(results, func(x api.Chain) bool { return len(x.Houses) == 0 || len(x.Sales) == 0 }) {
		t.Error(results)
	}
	if !testhelp.Apart(results, copied, same, spoil) || !same(whole(c), before) {
		t.Error(whole(c))
	}
}

// P1, R3: nothing is remembered, also not by a list that is told; two lists share no memory.
func TestListsAreNew(t *testing.T) {
	var calls []api.Errno
	list := func(l []int, e api.Errno) []int {
		calls = append(calls, e)
		return l
	}
	for range 2 {
		c := example()
		moves, n, e := chain.Close(c)
		results := [][]int{moves, list(chain.Owed(c)), list(chain.Proof(c)), list(chain.Passes(c)), list(chain.Pays(c, 505)), list(chain.Way(c, 1, 4)), c.Houses}
		want := [][]int{ints(2, 1, 0, 2, 2), ints(-4, -1, 3, 2), ints(0, 1, 2, 2), ints(2), ints(-60, 30, 30, 0), ints(1, 4), ints(1, 2, 3, 4)}
		if !slices.EqualFunc(results, want, slices.Equal) || n != 7 || e != api.OK {
			t.Error(results, n, e)
		}
		if !testhelp.Apart(results, slices.Clone, slices.Equal, func(l []int) { testhelp.Spoil(l, 77) }) {
			t.Error(results)
		}
		hands, e := chain.Hands(example())
		loses, f := chain.Loses(example(), 2, span(500, 520))
		calls = append(calls, e, f)
		if !slices.Equal(hands, []api.Handed{handed(1, 3, 3), handed(1, 4, 1), handed(2, 4, 1)}) || !slices.Equal(loses, []api.Span{{}, {}, span(0, 40), span(0, 30)}) {
			t.Error(hands, loses)
		}
		testhelp.Spoil(hands, handed(7, 7, 7))
		testhelp.Spoil(loses, span(7, 7))
	}
	if slices.ContainsFunc(calls, func(e api.Errno) bool { return e != api.OK }) {
		t.Error(calls)
	}
}

// P1, R4: nil lists and empty ones are the same.
func TestNilAndEmpty(t *testing.T) {
	for _, l := range [][2]api.Chain{
		{{}, {Houses: ints(), Sales: []api.Sale{}}}, {simple(2), {Houses: ints(1, 2), Sales: []api.Sale{}}},
	} {
		for _, f := range calls() {
			for _, numbers := range [][]int{nil, ints(), ints(0)} {
				x := asks{1, 2, 1, 1, span(1, 1), sale(1, 1, 2, 1, 1), numbers}
				is, e := f.do(l[0], x)
				if also, g := f.do(l[1], x); e != g || is != also {
					t.Error(f.name, is, e, also, g)
				}
			}
		}
	}
	for _, numbers := range [][]int{nil, {}} {
		if c, e := chain.Strike(example(), numbers); !same(c, example()) || e != api.OK {
			t.Error(c, e)
		}
	}
}
