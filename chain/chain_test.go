package chain_test

import (
	"slices"
	"testing"

	"middling/api"
	"middling/chain"
)

// told is all that the closing of a chain tells.
type told struct {
	c                   api.Chain
	owed, moves         []int
	bales               int
	proof, passes       []int
	hands               []api.Handed
	price               int
	pays                []int
	number, least, most int
}

func (x told) agrees() bool {
	owed, a := chain.Owed(x.c)
	moves, n, b := chain.Close(x.c)
	proof, c := chain.Proof(x.c)
	passes, d := chain.Passes(x.c)
	hands, e := chain.Hands(x.c)
	pays, f := chain.Pays(x.c, x.price)
	for _, e := range []api.Errno{a, b, c, d, e, f} {
		if e != api.OK {
			return false
		}
	}
	if len(x.c.Sales) > 0 {
		if s, e := chain.Range(x.c, x.number); s != span(x.least, x.most) || e != api.OK {
			return false
		}
	}
	return slices.Equal(owed, x.owed) && slices.Equal(moves, x.moves) && n == x.bales && slices.Equal(proof, x.proof) && slices.Equal(passes, x.passes) && slices.Equal(hands, x.hands) && slices.Equal(pays, x.pays)
}

// P6.2, P6.3, P6.4: the closing, with the chapter's examples.
func TestClosing(t *testing.T) {
	zero := func(n int) []int { return make([]int, n) }
	for i, x := range []told{
		{example(), ints(-4, -1, 3, 2), ints(2, 1, 0, 2, 2), 7, ints(0, 1, 2, 2), ints(2), []api.Handed{handed(1, 3, 3), handed(1, 4, 1), handed(2, 4, 1)}, 505, ints(-60, 30, 30, 0), 1, 2, 2},
		{example(), ints(-4, -1, 3, 2), ints(2, 1, 0, 2, 2), 7, ints(0, 1, 2, 2), ints(2), []api.Handed{handed(1, 3, 3), handed(1, 4, 1), handed(2, 4, 1)}, 1000000, ints(-60, 30, 30, 0), 3, 0, 0},
		// With bales back from 4 to 1 fewer move.
		{example(sale(6, 4, 1, 2, 500)), ints(-2, -1, 3, 0), ints(0, 1, 0, 0, 2, 0), 3, ints(0, 0, 1, 0), nil, []api.Handed{handed(1, 3, 2), handed(2, 3, 1)}, 0, ints(-60, 40, 30, -10), 2, 1, 1},
		// No house, no sale, none that moves.
		{api.Chain{}, nil, nil, 0, nil, nil, nil, 7, nil, 0, 0, 0}, {simple(1), ints(0), nil, 0, ints(0), nil, nil, 7, ints(0), 0, 0, 0}, {simple(6), zero(6), nil, 0, zero(6), nil, nil, 7, zero(6), 0, 0, 0}, {simple(2, [3]int{1, 2, 5}, [3]int{2, 1, 5}), zero(2), zero(2), 0, zero(2), nil, nil, 90, zero(2), 2, 0, 0}, {simple(3, [3]int{1, 2, 5}, [3]int{2, 3, 5}, [3]int{3, 1, 5}), zero(3), zero(3), 0, zero(3), nil, nil, 90, zero(3), 1, 0, 0},
		// All move that can: each house on is told one more.
		{simple(6, [3]int{1, 2, 9}, [3]int{2, 3, 9}, [3]int{3, 4, 9}, [3]int{4, 5, 9}, [3]int{5, 6, 9}), ints(-9, 0, 0, 0, 0, 9), ints(9, 9, 9, 9, 9), 45, ints(0, 1, 2, 3, 4, 5), ints(2, 3, 4, 5), []api.Handed{handed(1, 6, 9)}, 7, zero(6), 3, 9, 9},
		{simple(6, [3]int{6, 5, 9}, [3]int{5, 4, 9}, [3]int{4, 3, 9}, [3]int{3, 2, 9}, [3]int{2, 1, 9}), ints(9, 0, 0, 0, 0, -9), ints(9, 9, 9, 9, 9), 45, ints(5, 4, 3, 2, 1, 0), ints(2, 3, 4, 5), []api.Handed{handed(6, 1, 9)}, 7, zero(6), 5, 9, 9},
		// Of two sales that are alike the second one moves.
		{simple(2, [3]int{1, 2, 3}, [3]int{1, 2, 3}, [3]int{2, 1, 3}), ints(-3, 3), ints(0, 3, 0), 3, ints(0, 1), nil, []api.Handed{handed(1, 2, 3)}, 90, ints(0, 0), 1, 0, 3}, {simple(2, [3]int{1, 2, 3}, [3]int{1, 2, 3}, [3]int{2, 1, 2}), ints(-4, 4), ints(1, 3, 0), 4, ints(0, 1), nil, []api.Handed{handed(1, 2, 4)}, 90, ints(0, 0), 2, 1, 3},
		// Fewer bales move straight on than around, though it is the later sale that moves.
		{simple(3, [3]int{1, 2, 4}, [3]int{2, 3, 4}, [3]int{1, 3, 4}, [3]int{3, 1, 4}), ints(-4, 0, 4), ints(0, 0, 4, 0), 4, ints(0, 0, 1), nil, []api.Handed{handed(1, 3, 4)}, 90, ints(0, 0, 0), 3, 4, 4},
		// Two ways are as short: the one whose first sale comes later.
		{simple(4, [3]int{1, 2, 2}, [3]int{1, 3, 2}, [3]int{2, 4, 2}, [3]int{3, 4, 2}, [3]int{4, 1, 2}), ints(-2, 0, 0, 2), ints(0, 2, 0, 2, 0), 4, ints(0, 1, 1, 2), ints(3), []api.Handed{handed(1, 4, 2)}, 90, ints(0, 0, 0, 0), 3, 0, 2},
		// A bale goes on before one is kept: 2 hands on what it gets, by its sale of the least Number.
		{simple(4, [3]int{1, 2, 3}, [3]int{2, 3, 1}, [3]int{2, 4, 1}), ints(-3, 1, 1, 1), ints(3, 1, 1), 5, ints(0, 1, 2, 2), ints(2), []api.Handed{handed(1, 2, 1), handed(1, 3, 1), handed(1, 4, 1)}, 7, zero(4), 1, 3, 3},
		// A bale of its own begins after those of houses before it, by what is left.
		{simple(4, [3]int{1, 2, 1}, [3]int{2, 4, 1}, [3]int{2, 3, 1}), ints(-1, -1, 1, 1), ints(1, 1, 1), 3, ints(0, 1, 2, 2), ints(2), []api.Handed{handed(1, 4, 1), handed(2, 3, 1)}, 7, zero(4), 2, 1, 1},
	} {
		if !x.agrees() {
			t.Error(i, x)
		}
	}
}

// P6.4: prices that differ stay between those who agreed on them.
func TestPays(t *testing.T) {
	dear := simple(2, [3]int{1, 2, 9}, [3]int{2, 1, 9})
	dear.Sales[0].Price, dear.Sales[1].Price = 1000000, 0
	part := simple(2, [3]int{1, 2, 5}, [3]int{2, 1, 2})
	part.Sales[0].Price = 120
	for i, x := range []struct {
		c     api.Chain
		price int
		want  []int
		e     api.Errno
	}{
		{dear, 0, ints(9000000, -9000000), api.OK}, {dear, 1000000, ints(9000000, -9000000), api.OK}, {part, 500, ints(40, -40), api.OK}, {part, 0, ints(40, -40), api.OK}, {example(), 505, ints(-60, 30, 30, 0), api.OK}, {api.Chain{}, 0, nil, api.OK},
		{example(), -1, nil, api.ErrPrice}, {example(), 1000001, nil, api.ErrPrice}, {api.Chain{}, -1, nil, api.ErrPrice}, {broken(), -1, nil, api.ErrChain},
	} {
		if l, e := chain.Pays(x.c, x.price); !slices.Equal(l, x.want) || e != x.e {
			t.Error(i, l, e)
		}
	}
}

// P6.5: what the others lose if a house stops, with the chapter's examples.
func TestLoses(t *testing.T) {
	dear := simple(2, [3]int{1, 2, 9})
	none := span(0, 0)
	for i, x := range []struct {
		c      api.Chain
		house  int
		prices api.Span
		want   []api.Span
		e      api.Errno
	}{
		{example(), 2, span(500, 520), []api.Span{none, none, span(0, 40), span(0, 30)}, api.OK}, {example(), 1, span(500, 520), []api.Span{none, span(0, 100), span(10, 30), none}, api.OK}, {example(), 4, span(500, 520), []api.Span{none, span(0, 10), none, none}, api.OK}, {example(), 2, span(600, 600), []api.Span{none, none, span(360, 360), span(190, 190)}, api.OK},
		// What is lost by one sale is made up by another one.
		{example(), 3, span(500, 520), []api.Span{none, span(0, 40), none, none}, api.OK}, {example(), 3, span(525, 530), []api.Span{none, none, none, none}, api.OK}, {example(), 3, span(531, 540), []api.Span{span(1, 10), none, none, none}, api.OK},
		{dear, 1, span(0, 1000000), []api.Span{none, span(0, 8999100)}, api.OK}, {dear, 2, span(0, 1000000), []api.Span{span(0, 900), none}, api.OK}, {dear, 2, span(100, 100), []api.Span{none, none}, api.OK}, {dear, 2, span(98, 99), []api.Span{span(9, 18), none}, api.OK}, {simple(3), 2, span(0, 9), []api.Span{none, none, none}, api.OK},
		{example(), 5, span(0, 0), nil, api.ErrNone}, {example(), 5, span(2, 1), nil, api.ErrNone}, {example(), 1, span(2, 1), nil, api.ErrPrice}, {example(), 1, span(-1, 1), nil, api.ErrPrice}, {example(), 1, span(0, 1000001), nil, api.ErrPrice}, {broken(), 5, span(2, 1), nil, api.ErrChain},
	} {
		if l, e := chain.Loses(x.c, x.house, x.prices); !slices.Equal(l, x.want) || e != x.e {
			t.Error(i, l, e)
		}
	}
}

// P6.5: the house by whose stopping the others lose most, with the chapter's example: what each one loses at most, also at another price.
func TestWorst(t *testing.T) {
	both := simple(3, [3]int{1, 2, 5}, [3]int{3, 1, 4})
	for i, x := range []struct {
		c          api.Chain
		prices     api.Span
		house, lot int
		e          api.Errno
	}{
		{example(), span(500, 520), 1, 130, api.OK}, {example(), span(600, 600), 2, 550, api.OK}, {both, span(90, 110), 1, 90, api.OK}, {both, span(100, 100), 1, 0, api.OK}, {simple(3), span(0, 1000000), 1, 0, api.OK}, {simple(2, [3]int{1, 2, 5}), span(90, 101), 2, 50, api.OK}, {simple(2, [3]int{1, 2, 5}), span(95, 105), 1, 25, api.OK}, {simple(3, [3]int{2, 3, 9}), span(0, 1000000), 2, 8999100, api.OK},
		{api.Chain{}, span(0, 1), 0, 0, api.ErrNone}, {api.Chain{}, span(0, 1000001), 0, 0, api.ErrPrice}, {api.Chain{}, span(1, 0), 0, 0, api.ErrPrice}, {example(), span(-1, 0), 0, 0, api.ErrPrice}, {broken(), span(2, 1), 0, 0, api.ErrChain},
	} {
		if h, n, e := chain.Worst(x.c, x.prices); h != x.house || n != x.lot || e != x.e {
			t.Error(i, h, n, e)
		}
	}
}

// P6.6: what one sale more adds, with the chapter's example; also the eleventh one.
func TestAdds(t *testing.T) {
	tenth := simple(2, slices.Repeat([][3]int{{1, 2, 9}}, 10)...)
	for i, x := range []struct {
		c    api.Chain
		x    api.Sale
		want int
		e    api.Errno
	}{
		{example(), sale(6, 4, 1, 2, 500), -4, api.OK}, {example(), sale(9999, 1, 4, 3, 500), 3, api.OK}, {simple(2), sale(1, 1, 2, 9, 0), 9, api.OK}, {simple(2, [3]int{1, 2, 5}), sale(7, 2, 1, 9, 1000000), -1, api.OK}, {tenth, sale(11, 1, 2, 9, 0), 9, api.OK}, {tenth, sale(9999, 2, 1, 9, 0), -9, api.OK},
		{example(), sale(5, 4, 1, 2, 500), 0, api.ErrSale}, {example(), sale(0, 4, 1, 2, 500), 0, api.ErrSale}, {example(), sale(10000, 4, 1, 2, 500), 0, api.ErrSale}, {example(), sale(6, 4, 4, 2, 500), 0, api.ErrSale}, {example(), sale(6, 5, 1, 2, 500), 0, api.ErrSale}, {example(), sale(6, 4, 1, 10, 500), 0, api.ErrSale}, {example(), sale(6, 4, 1, 0, 500), 0, api.ErrSale}, {example(), sale(6, 4, 1, 2, -1), 0, api.ErrSale}, {tenth, sale(10, 2, 1, 9, 0), 0, api.ErrSale}, {tenth, api.Sale{}, 0, api.ErrSale}, {broken(), api.Sale{}, 0, api.ErrChain},
	} {
		if n, e := chain.Adds(x.c, x.x); n != x.want || e != x.e {
			t.Error(i, n, e)
		}
	}
}

// P6.6: the way from house to house, with the chapter's examples.
func TestWay(t *testing.T) {
	ring := simple(6, [3]int{1, 2, 1}, [3]int{2, 3, 1}, [3]int{3, 4, 1}, [3]int{4, 5, 1}, [3]int{5, 6, 1}, [3]int{6, 1, 1})
	forks := simple(4, [3]int{1, 3, 1}, [3]int{1, 2, 1}, [3]int{3, 4, 1}, [3]int{2, 4, 1}, [3]int{1, 3, 1})
	for i, x := range []struct {
		c        api.Chain
		from, to int
		want     []int
		e        api.Errno
	}{
		{example(), 1, 4, ints(1, 4), api.OK}, {example(), 3, 3, nil, api.OK}, {example(), 1, 3, ints(5), api.OK}, {example(), 3, 4, ints(3, 1, 4), api.OK}, {example(), 4, 4, nil, api.OK}, {ring, 1, 6, ints(1, 2, 3, 4, 5), api.OK}, {ring, 2, 1, ints(2, 3, 4, 5, 6), api.OK}, {ring, 6, 6, nil, api.OK}, {forks, 1, 4, ints(1, 3), api.OK}, {forks, 1, 3, ints(1), api.OK}, {simple(1), 1, 1, nil, api.OK},
		{example(), 4, 1, nil, api.ErrNone}, {forks, 4, 1, nil, api.ErrNone}, {simple(2), 1, 2, nil, api.ErrNone}, {example(), 5, 5, nil, api.ErrNone}, {example(), 1, 5, nil, api.ErrNone}, {example(), 0, 1, nil, api.ErrNone}, {api.Chain{}, 0, 0, nil, api.ErrNone}, {broken(), 0, 0, nil, api.ErrChain},
	} {
		if l, e := chain.Way(x.c, x.from, x.to); !slices.Equal(l, x.want) || e != x.e {
			t.Error(i, l, e)
		}
	}
}

// P6.2: how many bales move by a sale, with the chapter's examples.
func TestRange(t *testing.T) {
	forks := simple(4, [3]int{1, 2, 2}, [3]int{1, 3, 2}, [3]int{2, 4, 2}, [3]int{3, 4, 2}, [3]int{4, 1, 2})
	for i, x := range []struct {
		c      api.Chain
		number int
		want   api.Span
		e      api.Errno
	}{
		{example(), 1, span(2, 2), api.OK}, {example(), 3, span(0, 0), api.OK}, {example(), 5, span(2, 2), api.OK}, {forks, 1, span(0, 2), api.OK}, {forks, 2, span(0, 2), api.OK}, {forks, 4, span(0, 2), api.OK}, {forks, 5, span(0, 0), api.OK},
		{example(), 6, span(0, 0), api.ErrSale}, {example(), 0, span(0, 0), api.ErrSale}, {example(), -1, span(0, 0), api.ErrSale}, {api.Chain{}, 1, span(0, 0), api.ErrSale}, {broken(), 6, span(0, 0), api.ErrChain},
	} {
		if s, e := chain.Range(x.c, x.number); s != x.want || e != x.e {
			t.Error(i, s, e)
		}
	}
}
