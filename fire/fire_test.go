package fire_test

import (
	"math"
	"slices"
	"testing"

	"middling/api"
	"middling/fire"
)

// late is a blaze of the examples with a fire that comes as late as it can: over four gaps of an hour each.
func late() api.Blaze {
	return row(5, span(595, 600), gap(1, 2, 58, 60), gap(2, 3, 58, 60), gap(3, 4, 58, 60), gap(4, 5, 58, 60))
}

// moved is the blaze of the examples after two moves.
func moved() api.Blaze {
	return changed(func(b *api.Blaze) { b.House.Moves = []api.Move{{Day: 1, Bale: 12, To: 3}, {Day: 2, Bale: 21}} })
}

// on is the blaze of the examples on another day.
func on(day int) api.Blaze { return changed(func(b *api.Blaze) { b.Day = day }) }

// P11.2: when stacks caught, with the chapter's examples.
func TestCaught(t *testing.T) {
	for i, x := range []struct {
		b     api.Blaze
		stack int
		want  api.Span
		e     api.Errno
	}{
		{seen(), 1, span(10, 11), api.OK}, {seen(), 2, span(13, 14), api.OK}, {seen(), 3, span(18, 19), api.OK},
		{example(), 1, span(10, 21), api.OK}, {example(), 2, span(13, 17), api.OK}, {example(), 3, span(10, 21), api.OK},
		// Fire that takes no time; a stack that it does not come to.
		{apart(), 2, span(10, 12), api.OK}, {apart(), 3, span(10, 12), api.OK}, {apart(glance(1, 3, 600, false)), 3, api.Span{}, api.ErrNone}, {apart(glance(1, 3, 600, false)), 2, span(10, 12), api.OK}, {apart(glance(1, 3, 600, true)), 1, api.Span{}, api.ErrNone}, {apart(glance(1, 1, 11, false), glance(2, 1, 30, true)), 2, span(12, 12), api.OK}, {row(2, span(0, 0)), 2, api.Span{}, api.ErrNone}, {row(1, span(0, 5)), 1, span(0, 5), api.OK},
		// By the nearest way, in each truth.
		{ring(), 2, span(2, 4), api.OK}, {ring(), 3, span(4, 6), api.OK}, {ring(glance(1, 2, 3, false)), 3, span(5, 6), api.OK}, {ring(glance(1, 3, 4, true)), 2, span(2, 2), api.OK}, {ring(glance(1, 3, 5, false)), 2, span(4, 4), api.OK},
		// The last minutes of all.
		{late(), 1, span(595, 600), api.OK}, {late(), 2, span(653, 660), api.OK}, {late(), 5, span(827, 840), api.OK}, {row(1, span(600, 600)), 1, span(600, 600), api.OK},
		{seen(), 4, api.Span{}, api.ErrStack}, {seen(), 0, api.Span{}, api.ErrStack}, {seen(), -1, api.Span{}, api.ErrStack}, {seen(), math.MinInt, api.Span{}, api.ErrStack}, {seen(), math.MaxInt, api.Span{}, api.ErrStack}, {odd(), 4, api.Span{}, api.ErrStack}, {odd(), 1, api.Span{}, api.ErrBad}, {torn(), 1, api.Span{}, api.ErrBad}, {broken(), 4, api.Span{}, api.ErrBlaze},
	} {
		if s, e := fire.Caught(x.b, x.stack); s != x.want || e != x.e {
			t.Error(i, s, e)
		}
	}
}

// P11.2: whether there is a truth, and where it began, with the chapter's examples.
func TestBegan(t *testing.T) {
	for i, x := range []struct {
		b    api.Blaze
		want []int
	}{
		{seen(), ints(1)}, {example(), ints(1, 3)}, {odd(), nil}, {many(), nil}, {torn(), nil}, {apart(), ints(1, 3)}, {apart(glance(1, 1, 600, false)), ints(3)}, {apart(glance(1, 1, 600, true)), ints(1)}, {apart(glance(1, 1, 600, true), glance(2, 3, 600, true)), nil}, {apart(glance(1, 1, 600, false), glance(2, 3, 600, false)), nil}, {full(), ints(1, 2, 5, 8, 9999)}, {ring(), ints(1)},
		// In the minute that is told it had caught already.
		{example(glance(1, 1, 12, true)), ints(1)}, {example(glance(1, 1, 12, false)), ints(3)}, {example(glance(1, 1, 10, true)), ints(1)}, {example(glance(1, 1, 9, true)), nil}, {example(glance(1, 1, 9, false)), ints(1, 3)}, {example(glance(1, 2, 15, true), glance(2, 3, 11, true)), ints(3)},
		// Each one may be false by another one.
		{example(glance(1, 1, 10, true), glance(2, 1, 10, false)), nil}, {example(glance(1, 1, 11, true), glance(2, 1, 10, false)), ints(1)}, {example(glance(1, 1, 11, false), glance(2, 2, 14, true)), nil}, {example(glance(1, 1, 10, false), glance(2, 2, 14, true)), ints(1)},
		{late(), ints(1)}, {row(5, span(600, 600)), ints(1)},
	} {
		is, e := fire.Can(x.b)
		if is != (len(x.want) > 0) || e != api.OK {
			t.Error(i, is, e)
		}
		l, e := fire.Began(x.b)
		if !slices.Equal(l, x.want) || (e == api.OK) != is || !is && e != api.ErrBad {
			t.Error(i, l, e)
		}
	}
}

// P11.3: whether stacks had caught, with the chapter's examples.
func TestKnown(t *testing.T) {
	no, open, yes := uint8(api.KnownNo), uint8(api.KnownOpen), uint8(api.KnownYes)
	for i, x := range []struct {
		b             api.Blaze
		stack, minute int
		want          uint8
		e             api.Errno
	}{
		{seen(), 2, 13, open, api.OK}, {seen(), 3, 19, yes, api.OK}, {seen(), 1, 9, no, api.OK}, {seen(), 2, 12, no, api.OK}, {seen(), 2, 14, yes, api.OK}, {seen(), 1, 10, open, api.OK}, {seen(), 1, 11, yes, api.OK}, {seen(), 3, 17, no, api.OK}, {seen(), 3, 18, open, api.OK}, {seen(), 3, 600, yes, api.OK}, {seen(), 1, 0, no, api.OK},
		{apart(), 3, 600, open, api.OK}, {apart(), 3, 9, no, api.OK}, {apart(glance(1, 3, 600, false)), 3, 600, no, api.OK}, {row(1, span(0, 0)), 1, 0, yes, api.OK}, {row(1, span(0, 1)), 1, 0, open, api.OK}, {row(1, span(600, 600)), 1, 599, no, api.OK}, {row(1, span(600, 600)), 1, 600, yes, api.OK}, {late(), 2, 600, no, api.OK}, {late(), 5, 600, no, api.OK},
		{seen(), 2, 601, 0, api.ErrClock}, {seen(), 2, -1, 0, api.ErrClock}, {seen(), 2, math.MinInt, 0, api.ErrClock}, {seen(), 2, math.MaxInt, 0, api.ErrClock}, {seen(), 4, -1, 0, api.ErrStack}, {odd(), 2, 601, 0, api.ErrClock}, {odd(), 2, 0, 0, api.ErrBad}, {torn(), 2, 0, 0, api.ErrBad},
	} {
		if k, e := fire.Known(x.b, x.stack, x.minute); k != x.want || e != x.e {
			t.Error(i, k, e)
		}
	}
}

// P11.3: which stack caught before which, with the chapter's examples.
func TestBefore(t *testing.T) {
	no, open, yes := uint8(api.KnownNo), uint8(api.KnownOpen), uint8(api.KnownYes)
	for i, x := range []struct {
		b          api.Blaze
		one, other int
		want       uint8
		e          api.Errno
	}{
		{seen(), 1, 2, yes, api.OK}, {seen(), 3, 2, no, api.OK}, {seen(), 2, 3, yes, api.OK}, {seen(), 2, 1, no, api.OK}, {example(), 1, 3, open, api.OK}, {example(), 3, 1, open, api.OK}, {example(), 1, 2, open, api.OK}, {ring(), 2, 3, yes, api.OK}, {ring(), 3, 2, no, api.OK},
		// In one minute neither is before the other one; one that never caught is before none, and none that never did is.
		{apart(), 1, 2, no, api.OK}, {apart(), 2, 1, no, api.OK}, {apart(), 2, 3, open, api.OK}, {apart(), 3, 2, open, api.OK}, {apart(glance(1, 3, 600, false)), 2, 3, yes, api.OK}, {apart(glance(1, 3, 600, false)), 3, 2, no, api.OK}, {row(3, span(0, 5)), 2, 3, no, api.OK}, {row(3, span(0, 5)), 3, 2, no, api.OK}, {row(3, span(0, 5)), 1, 3, yes, api.OK}, {row(3, span(0, 5)), 3, 1, no, api.OK}, {late(), 4, 5, yes, api.OK}, {late(), 5, 4, no, api.OK},
		{seen(), 2, 2, 0, api.ErrArg}, {apart(), 3, 3, 0, api.ErrArg}, {seen(), 2, 4, 0, api.ErrStack}, {seen(), 4, 2, 0, api.ErrStack}, {seen(), 4, 4, 0, api.ErrStack}, {odd(), 2, 2, 0, api.ErrBad}, {odd(), 1, 2, 0, api.ErrBad}, {torn(), 1, 1, 0, api.ErrBad},
	} {
		if k, e := fire.Before(x.b, x.one, x.other); k != x.want || e != x.e {
			t.Error(i, k, e)
		}
	}
}

// P11.3: the minutes of gaps, with the chapter's examples.
func TestSpread(t *testing.T) {
	for i, x := range []struct {
		b    api.Blaze
		a, c int
		want api.Span
		e    api.Errno
	}{
		{seen(), 2, 1, span(3, 4), api.OK}, {seen(), 1, 2, span(3, 4), api.OK}, {seen(), 2, 3, span(5, 5), api.OK}, {seen(), 3, 2, span(5, 5), api.OK}, {example(glance(1, 2, 13, true), glance(2, 3, 17, false)), 1, 2, span(3, 3), api.OK}, {example(glance(1, 2, 14, false), glance(2, 1, 11, true)), 1, 2, span(4, 4), api.OK},
		// A gap over which the fire came too late tells nothing of itself.
		{ring(), 1, 3, span(5, 6), api.OK}, {ring(glance(1, 3, 5, false)), 1, 3, span(6, 6), api.OK}, {ring(glance(1, 3, 5, false)), 2, 1, span(4, 4), api.OK}, {ring(glance(1, 3, 4, true)), 1, 3, span(5, 6), api.OK}, {ring(glance(1, 3, 4, true)), 1, 2, span(2, 2), api.OK}, {late(), 5, 4, span(58, 60), api.OK}, {apart(), 1, 2, span(0, 0), api.OK},
		{seen(), 1, 3, api.Span{}, api.ErrNone}, {seen(), 3, 1, api.Span{}, api.ErrNone}, {seen(), 1, 1, api.Span{}, api.ErrNone}, {apart(), 2, 3, api.Span{}, api.ErrNone}, {row(2, span(0, 0)), 1, 2, api.Span{}, api.ErrNone}, {seen(), 1, 4, api.Span{}, api.ErrStack}, {seen(), 4, 1, api.Span{}, api.ErrStack}, {seen(), 0, 0, api.Span{}, api.ErrStack}, {odd(), 1, 2, api.Span{}, api.ErrBad}, {odd(), 1, 3, api.Span{}, api.ErrBad}, {torn(), 1, 1, api.Span{}, api.ErrBad},
	} {
		if s, e := fire.Spread(x.b, x.a, x.c); s != x.want || e != x.e {
			t.Error(i, s, e)
		}
	}
}

// P11.4: which bales were lost, with the chapter's examples.
func TestLost(t *testing.T) {
	for i, x := range []struct {
		b         api.Blaze
		minute    int
		sure, may []int
		e         api.Errno
	}{
		{seen(), 13, ints(11, 12), ints(11, 12, 21), api.OK}, {seen(), 18, ints(11, 12, 21), ints(11, 12, 21, 31), api.OK}, {seen(), 9, nil, nil, api.OK}, {seen(), 0, nil, nil, api.OK}, {seen(), 10, nil, ints(11, 12), api.OK}, {seen(), 11, ints(11, 12), ints(11, 12), api.OK}, {seen(), 14, ints(11, 12, 21), ints(11, 12, 21), api.OK}, {seen(), 600, ints(11, 12, 21, 31), ints(11, 12, 21, 31), api.OK}, {example(), 12, nil, ints(11, 12, 31), api.OK}, {apart(), 600, nil, ints(11, 12, 21, 31), api.OK},
		// Where bales are on the Day, in order.
		{moved(), 13, ints(11), ints(11), api.OK}, {moved(), 19, ints(11, 12, 31), ints(11, 12, 31), api.OK}, {changed(func(b *api.Blaze) { b.House.Moves, b.Day = moved().House.Moves, 1 }), 19, ints(11, 12, 21, 31), ints(11, 12, 21, 31), api.OK}, {changed(func(b *api.Blaze) { b.House.Moves, b.Day = moved().House.Moves, 0 }), 13, ints(11, 12), ints(11, 12, 21), api.OK}, {changed(func(b *api.Blaze) {
			b.House.Stacks[0].Bales = ints(99, 12)
			b.House.Owners[0].Bale, b.House.Owners[1].Bale, b.House.Owners[2].Bale, b.House.Owners[3].Bale = 12, 21, 31, 99
		}), 600, ints(12, 21, 31, 99), ints(12, 21, 31, 99), api.OK}, {row(2, span(0, 0)), 600, nil, nil, api.OK},
		{seen(), 601, nil, nil, api.ErrClock}, {seen(), -1, nil, nil, api.ErrClock}, {seen(), math.MinInt, nil, nil, api.ErrClock}, {seen(), math.MaxInt, nil, nil, api.ErrClock}, {odd(), 9, nil, nil, api.ErrBad}, {odd(), 601, nil, nil, api.ErrClock}, {torn(), 9, nil, nil, api.ErrBad},
	} {
		if l, k, e := fire.Lost(x.b, x.minute); !slices.Equal(l, x.sure) || !slices.Equal(k, x.may) || e != x.e {
			t.Error(i, l, k, e)
		}
	}
}

// P11.4, P11.12: whose bales are, with the chapter's examples.
func TestWhose(t *testing.T) {
	for i, x := range []struct {
		b    api.Blaze
		bale int
		want []int
		e    api.Errno
	}{
		{seen(), 11, ints(5, 6), api.OK}, {seen(), 12, ints(1), api.OK}, {seen(), 21, ints(7), api.OK}, {seen(), 31, ints(1), api.OK}, {on(0), 11, ints(5), api.OK}, {on(1), 11, ints(5), api.OK}, {on(3), 11, ints(6), api.OK}, {on(5), 11, ints(6), api.OK}, {moved(), 12, ints(1), api.OK},
		// A paper of a bale that is not there tells nothing of another one.
		{changed(func(b *api.Blaze) { b.Books.Papers[1].Bale = 9999 }), 21, ints(2), api.OK}, {changed(func(b *api.Blaze) { b.Books.Papers[1].Bale = 9999 }), 9999, nil, api.ErrNone}, {changed(func(b *api.Blaze) { b.Books = api.Papers{Days: 3} }), 11, ints(1), api.OK}, {changed(func(b *api.Blaze) { b.Books = api.Papers{Days: 3} }), 0, nil, api.ErrNone},
		{moved(), 21, nil, api.ErrNone}, {seen(), 13, nil, api.ErrNone}, {seen(), 0, nil, api.ErrNone}, {seen(), -11, nil, api.ErrNone}, {seen(), math.MinInt, nil, api.ErrNone}, {seen(), math.MaxInt, nil, api.ErrNone}, {odd(), 13, nil, api.ErrBad}, {odd(), 11, nil, api.ErrBad}, {torn(), 11, nil, api.ErrBad},
	} {
		if l, e := fire.Whose(x.b, x.bale); !slices.Equal(l, x.want) || e != x.e {
			t.Error(i, l, e)
		}
	}
}

// P11.4: what was lost by each house, with the chapter's examples.
func TestCosts(t *testing.T) {
	for i, x := range []struct {
		b             api.Blaze
		house, minute int
		want          api.Span
		e             api.Errno
	}{
		{seen(), 6, 14, span(0, 1), api.OK}, {seen(), 1, 18, span(1, 2), api.OK}, {seen(), 7, 13, span(0, 1), api.OK}, {seen(), 1, 19, span(2, 2), api.OK}, {seen(), 5, 14, span(0, 1), api.OK}, {seen(), 7, 14, span(1, 1), api.OK}, {seen(), 7, 12, span(0, 0), api.OK}, {on(3), 6, 11, span(1, 1), api.OK}, {on(3), 6, 10, span(0, 1), api.OK}, {on(3), 5, 600, span(0, 0), api.OK}, {moved(), 1, 19, span(2, 2), api.OK}, {moved(), 7, 600, span(0, 0), api.OK}, {moved(), 2, 600, span(0, 0), api.OK},
		// Of two stacks one or the other one has caught: together no more and no less than in some truth.
		{example(), 1, 16, span(1, 1), api.OK}, {example(), 1, 11, span(0, 1), api.OK}, {example(), 1, 21, span(2, 2), api.OK}, {apart(), 1, 600, span(1, 1), api.OK},
		// The owner of a bale that has a paper loses nothing by it.
		{seen(), 2, 600, span(0, 0), api.OK}, {seen(), 9, 600, span(0, 0), api.OK}, {seen(), 0, 600, span(0, 0), api.OK}, {seen(), -1, 600, span(0, 0), api.OK}, {seen(), math.MinInt, 600, span(0, 0), api.OK}, {seen(), math.MaxInt, 600, span(0, 0), api.OK},
		{seen(), 6, 601, api.Span{}, api.ErrClock}, {seen(), 6, -1, api.Span{}, api.ErrClock}, {odd(), 6, 14, api.Span{}, api.ErrBad}, {odd(), 6, 601, api.Span{}, api.ErrClock}, {torn(), 6, 14, api.Span{}, api.ErrBad},
	} {
		if s, e := fire.Costs(x.b, x.house, x.minute); s != x.want || e != x.e {
			t.Error(i, s, e)
		}
	}
}

// P11.5: the look that tells most, with the chapter's example.
func TestAsk(t *testing.T) {
	from := func(begins []int, start api.Span, l ...api.Gap) api.Blaze {
		b := example()
		b.Begins, b.Start, b.Gaps = begins, start, l
		return b
	}
	for i, x := range []struct {
		b             api.Blaze
		minute, id, n int
		e             api.Errno
	}{
		{example(), 15, 1, 1, api.OK}, {example(), 14, 1, 1, api.OK}, {example(), 12, 1, 1, api.OK}, {seen(), 15, 1, 1, api.OK}, {apart(), 600, 1, 1, api.OK}, {row(5, span(0, 5)), 3, 1, 1, api.OK},
		// If no look surely tells anything the first of all stacks is as good as any other one.
		{example(), 0, 1, 2, api.OK}, {example(), 9, 1, 2, api.OK}, {example(), 10, 1, 2, api.OK}, {example(), 600, 1, 2, api.OK},
		// Not the first one, if another one tells more.
		{from(ints(2, 3), span(10, 12), gap(1, 2, 5, 5), gap(1, 3, 5, 5)), 12, 2, 1, api.OK}, {from(ints(2, 3), span(5, 5)), 5, 2, 1, api.OK}, {from(ints(2, 3), span(5, 5), gap(1, 3, 0, 0)), 5, 1, 1, api.OK}, {from(ints(1, 2, 3), span(5, 5)), 5, 1, 2, api.OK}, {from(ints(1, 2, 3), span(5, 5), gap(1, 2, 1, 1)), 6, 1, 2, api.OK}, {from(ints(1, 2, 3), span(5, 5), gap(1, 2, 1, 1), gap(2, 3, 1, 1)), 6, 1, 2, api.OK}, {from(ints(1, 3), span(5, 6), gap(1, 2, 0, 1), gap(2, 3, 1, 2)), 6, 1, 2, api.OK},
		{example(), 601, 0, 0, api.ErrClock}, {example(), -1, 0, 0, api.ErrClock}, {example(), math.MinInt, 0, 0, api.ErrClock}, {example(), math.MaxInt, 0, 0, api.ErrClock}, {odd(), 15, 0, 0, api.ErrBad}, {odd(), 601, 0, 0, api.ErrClock}, {torn(), 15, 0, 0, api.ErrBad},
	} {
		if id, n, e := fire.Ask(x.b, x.minute); id != x.id || n != x.n || e != x.e {
			t.Error(i, id, n, e)
		}
	}
}

// P11.6: which glances must be false, with the chapter's example.
func TestWrong(t *testing.T) {
	for i, x := range []struct {
		b    api.Blaze
		want []int
		e    api.Errno
	}{
		{seen(), nil, api.OK}, {example(), nil, api.OK}, {odd(), ints(3), api.OK}, {full(), nil, api.OK}, {many(), nil, api.ErrMany}, {without(many(), ints(5)), ints(1, 2, 4), api.OK}, {without(many(), ints(2, 4)), ints(1, 5), api.OK},
		// Whether the papers have a truth does not count.
		{torn(), nil, api.OK}, {changed(func(b *api.Blaze) { b.Books, b.Glances = torn().Books, odd().Glances }), ints(3), api.OK},
		// Fewer are told before lesser ones; of as many the lesser ones.
		{example(glance(3, 1, 20, false), glance(5, 3, 20, false)), ints(3), api.OK}, {example(glance(1, 1, 11, false), glance(2, 1, 10, false), glance(3, 1, 10, true), glance(4, 1, 600, true)), ints(3), api.OK}, {example(glance(1, 1, 10, true), glance(2, 1, 10, false), glance(4, 3, 10, true)), ints(1), api.OK}, {apart(glance(1, 1, 600, true), glance(2, 3, 600, true)), ints(1), api.OK}, {apart(glance(1, 1, 600, false), glance(2, 3, 600, false), glance(3, 2, 600, false), glance(4, 1, 9, true)), ints(2, 4), api.OK},
		// Three are not too many, of eight glances too.
		{apart(glance(1, 1, 9, true), glance(2, 2, 9, true), glance(3, 3, 9, true), glance(4, 1, 9, false), glance(5, 1, 8, false), glance(6, 2, 9, false), glance(7, 3, 9, false), glance(8, 3, 0, false)), ints(1, 2, 3), api.OK}, {apart(glance(1, 1, 9, true), glance(2, 2, 9, true), glance(3, 3, 9, true), glance(4, 1, 8, true), glance(5, 1, 8, false), glance(6, 2, 9, false), glance(7, 3, 9, false), glance(8, 3, 0, false)), nil, api.ErrMany},
		{broken(), nil, api.ErrBlaze},
	} {
		if l, e := fire.Wrong(x.b); !slices.Equal(l, x.want) || e != x.e {
			t.Error(i, l, e)
		}
	}
}
