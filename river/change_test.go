package river_test

import (
	"math"
	"slices"
	"testing"

	"middling/api"
	"middling/river"
	"middling/testhelp"
)

// roomier is full without the sixth report, 51, and without the gang 7.
func roomier() api.Flood {
	f := full()
	f.Reports, f.Gangs = slices.Delete(f.Reports, 5, 6), slices.Delete(f.Gangs, 1, 2)
	return f
}

// P10.7: a report more, in its place.
func TestPut(t *testing.T) {
	two := example(report(2, 1, 0, false), report(9, 1, 0, false))
	for i, x := range []struct {
		f  api.Flood
		x  api.Report
		at int
		e  api.Errno
	}{
		{example(), report(1, 7, 600, true), 0, api.OK}, {two, report(5, 1, 0, true), 1, api.OK}, {two, report(1, 1, 0, true), 0, api.OK}, {two, report(9999, 4, 33, false), 2, api.OK}, {odd(), report(4, 2, 20, true), 3, api.OK}, {roomier(), report(51, 6, 27, true), 5, api.OK},
		// It may be false, and no truth is left then.
		{known(), report(3, 2, 33, true), 2, api.OK}, {example(), report(3, 7, 600, false), 0, api.OK},
		{full(), report(52, 1, 0, false), 0, api.ErrFull}, {full(), report(1, 1, 0, false), 0, api.ErrFull}, {full(), api.Report{}, 0, api.ErrFull}, {broken(), report(3, 1, 0, true), 0, api.ErrFlood}, {broken(), api.Report{}, 0, api.ErrFlood},
		{example(), api.Report{}, 0, api.ErrReport}, {two, report(2, 1, 0, false), 0, api.ErrReport}, {two, report(9, 1, 0, true), 0, api.ErrReport}, {two, report(0, 1, 0, true), 0, api.ErrReport}, {two, report(-1, 1, 0, true), 0, api.ErrReport}, {two, report(10000, 1, 0, true), 0, api.ErrReport}, {two, report(math.MinInt, 1, 0, true), 0, api.ErrReport}, {two, report(math.MaxInt, 1, 0, true), 0, api.ErrReport},
		{two, report(3, 0, 0, true), 0, api.ErrReport}, {two, report(3, 8, 0, true), 0, api.ErrReport}, {two, report(3, math.MinInt, 0, true), 0, api.ErrReport}, {two, report(3, math.MaxInt, 0, true), 0, api.ErrReport}, {two, report(3, 1, -1, true), 0, api.ErrReport}, {two, report(3, 1, 601, true), 0, api.ErrReport}, {two, report(3, 1, math.MinInt, true), 0, api.ErrReport}, {two, report(3, 1, math.MaxInt, true), 0, api.ErrReport},
	} {
		want := api.Flood{}
		if x.e == api.OK {
			want = copied(x.f)
			want.Reports = slices.Insert(want.Reports, x.at, x.x)
		}
		if y, e := river.Put(x.f, x.x); e != x.e || !same(y, want) {
			t.Error(i, y, e)
		}
	}
}

// P10.7: some reports less.
func TestStrike(t *testing.T) {
	for i, x := range []struct {
		f       api.Flood
		numbers []int
		e       api.Errno
	}{
		{example(), nil, api.OK}, {known(), nil, api.OK}, {known(), ints(), api.OK}, {known(), ints(1), api.OK}, {known(), ints(2), api.OK}, {known(), ints(1, 2), api.OK}, {odd(), ints(1, 3), api.OK}, {never(), ints(1, 2, 3), api.OK}, {full(), ints(1, 9999), api.OK}, {full(), ints(11, 21, 31, 41, 51, 61), api.OK},
		{broken(), nil, api.ErrFlood}, {broken(), ints(1), api.ErrFlood}, {example(), ints(1), api.ErrReport}, {known(), ints(2, 1), api.ErrReport}, {known(), ints(1, 1), api.ErrReport}, {known(), ints(3), api.ErrReport}, {known(), ints(1, 3), api.ErrReport}, {known(), ints(0), api.ErrReport}, {known(), ints(0, 1), api.ErrReport}, {known(), ints(math.MinInt, 1), api.ErrReport}, {known(), ints(1, math.MaxInt), api.ErrReport}, {known(), ints(1, 2, 3), api.ErrReport},
	} {
		want := api.Flood{}
		if x.e == api.OK {
			want = without(x.f, x.numbers)
		}
		if y, e := river.Strike(x.f, x.numbers); e != x.e || !same(y, want) {
			t.Error(i, y, e)
		}
	}
}

// P10.7: a gang more, in its place.
func TestHire(t *testing.T) {
	for i, x := range []struct {
		f  api.Flood
		g  api.Gang
		at int
		e  api.Errno
	}{
		{example(), gang(3, 600, 60), 2, api.OK}, {example(), gang(9999, 0, 1), 2, api.OK}, {by(gang(5, 0, 1)), gang(4, 0, 1), 0, api.OK}, {by(gang(5, 0, 1), gang(7, 0, 1)), gang(6, 0, 1), 1, api.OK}, {by(), gang(1, 0, 1), 0, api.OK}, {odd(), gang(3, 0, 1), 2, api.OK}, {roomier(), gang(8, 0, 1), 1, api.OK},
		{full(), gang(8, 0, 1), 0, api.ErrFull}, {full(), gang(1, 0, 3), 0, api.ErrFull}, {full(), api.Gang{}, 0, api.ErrFull}, {broken(), gang(3, 0, 1), 0, api.ErrFlood}, {broken(), api.Gang{}, 0, api.ErrFlood},
		{example(), api.Gang{}, 0, api.ErrGang}, {example(), gang(1, 0, 1), 0, api.ErrGang}, {example(), gang(2, 5, 12), 0, api.ErrGang}, {example(), gang(0, 0, 1), 0, api.ErrGang}, {example(), gang(-1, 0, 1), 0, api.ErrGang}, {example(), gang(10000, 0, 1), 0, api.ErrGang}, {example(), gang(math.MinInt, 0, 1), 0, api.ErrGang}, {example(), gang(math.MaxInt, 0, 1), 0, api.ErrGang},
		{example(), gang(3, -1, 1), 0, api.ErrGang}, {example(), gang(3, 601, 1), 0, api.ErrGang}, {example(), gang(3, math.MinInt, 1), 0, api.ErrGang}, {example(), gang(3, math.MaxInt, 1), 0, api.ErrGang}, {example(), gang(3, 0, 0), 0, api.ErrGang}, {example(), gang(3, 0, 61), 0, api.ErrGang}, {example(), gang(3, 0, math.MinInt), 0, api.ErrGang}, {example(), gang(3, 600, math.MaxInt), 0, api.ErrGang},
	} {
		want := api.Flood{}
		if x.e == api.OK {
			want = copied(x.f)
			want.Gangs = slices.Insert(want.Gangs, x.at, x.g)
		}
		if y, e := river.Hire(x.f, x.g); e != x.e || !same(y, want) {
			t.Error(i, y, e)
		}
	}
}

// roomy is a flood whose lists have capacity behind their ends, in which nothing may be written.
func roomy(f api.Flood) api.Flood {
	w := &f.House
	w.Stacks = testhelp.Grown(w.Stacks)
	for at := range w.Stacks {
		w.Stacks[at].Bales = testhelp.Grown(w.Stacks[at].Bales)
	}
	w.Owners, w.Moves, w.Rain, w.Found = testhelp.Grown(w.Owners), testhelp.Grown(w.Moves), testhelp.Grown(w.Rain), testhelp.Grown(w.Found)
	f.Levels, f.Gangs, f.Worths, f.Reports = testhelp.Grown(f.Levels), testhelp.Grown(f.Gangs), testhelp.Grown(f.Worths), testhelp.Grown(f.Reports)
	return f
}

// whole is a copy of a flood with all that is behind the ends of its lists.
func whole(f api.Flood) api.Flood {
	w := &f.House
	w.Stacks = slices.Clone(w.Stacks[:cap(w.Stacks)])
	for at, x := range w.Stacks {
		w.Stacks[at].Bales = x.Bales[:cap(x.Bales)]
	}
	w.Owners, w.Moves, w.Rain, w.Found = w.Owners[:cap(w.Owners)], w.Moves[:cap(w.Moves)], w.Rain[:cap(w.Rain)], w.Found[:cap(w.Found)]
	f.Levels, f.Gangs, f.Worths, f.Reports = f.Levels[:cap(f.Levels)], f.Gangs[:cap(f.Gangs)], f.Worths[:cap(f.Worths)], f.Reports[:cap(f.Reports)]
	return copied(f)
}

// P1, R3: no argument is written to, also not behind its end.
func TestArgumentsStay(t *testing.T) {
	for _, f := range []api.Flood{roomy(known()), roomy(odd()), roomy(by()), roomy(roomier())} {
		before := whole(f)
		for _, l := range [][]int{nil, ints(1), ints(1, 2), ints(12, 11, 13), ints(0, 1, 0), ints(3, 4, 8, 2), ints(1, 0, 2, 0, 3)} {
			kept := testhelp.Grown(l)
			for _, y := range calls() {
				for _, n := range ints(1, 7, 13, 31, 600) {
					y.do(f, asks{n, n, n, kept, kept, gang(n, 0, 1), report(n, 1, n, true), kept})
					y.do(f, asks{n, 11, n, kept, kept, gang(77, n, 1), report(77, n, 1, false), kept})
				}
			}
			if !slices.Equal(kept[:cap(kept)], append(slices.Clone(l), make([]int, cap(kept)-len(l))...)) {
				t.Error(kept[:cap(kept)])
			}
		}
		if !same(whole(f), before) {
			t.Error(whole(f))
		}
	}
}

// spoil writes over all memory of a flood.
func spoil(f api.Flood) {
	for _, x := range f.House.Stacks {
		testhelp.Spoil(x.Bales, 77)
	}
	testhelp.Spoil(f.House.Stacks, pile(77, 7))
	testhelp.Spoil(f.House.Owners, owned(77, 7))
	testhelp.Spoil(f.House.Moves, api.Move{Day: 7})
	testhelp.Spoil(f.House.Rain, 77)
	testhelp.Spoil(f.House.Found, api.Found{Number: 77})
	testhelp.Spoil(f.Levels, span(7, 77))
	testhelp.Spoil(f.Gangs, gang(77, 7, 7))
	testhelp.Spoil(f.Worths, worth(77, 7))
	testhelp.Spoil(f.Reports, report(77, 7, 7, true))
}

// P1, R3: a result shares no memory with an argument, nor with another result.
func TestResultsAreNew(t *testing.T) {
	f := roomy(known())
	before := whole(f)
	put, _ := river.Put(f, report(3, 1, 1, true))
	also, _ := river.Put(put, report(4, 1, 1, true))
	all, _ := river.Strike(f, nil)
	fewer, _ := river.Strike(f, ints(2))
	again, _ := river.Strike(all, nil)
	hired, _ := river.Hire(f, gang(3, 0, 1))
	next, _ := river.Hire(f, gang(4, 0, 1))
	results := []api.Flood{put, also, all, fewer, again, hired, next}
	if slices.ContainsFunc(results, func(x api.Flood) bool {
		return !sameHouse(x.House, f.House) || len(x.Levels) != 7 || x.Gap != 5 || len(x.Gangs) < 2 || len(x.Worths) != 6 || len(x.Reports) < 1
	}) {
		t.Error(results)
	}
	if !testhelp.Apart(results, copied, same, spoil) || !same(whole(f), before) {
		t.Error(whole(f))
	}
}

// P1, R3: nothing is remembered, also not by a list that is told.
func TestListsAreNew(t *testing.T) {
	f := odd()
	for range 2 {
		loads, e := river.Loads(example(), 17)
		if !slices.Equal(loads, []api.Load{{Gang: 1, Minute: 10}, {Gang: 2, Minute: 17}}) || e != api.OK {
			t.Error(loads, e)
		}
		testhelp.Spoil(loads, api.Load{Gang: 77})
		losses, e := river.Losses(example())
		if !slices.Equal(losses, []api.Loss{loss(2, 600)}) || e != api.OK {
			t.Error(losses, e)
		}
		testhelp.Spoil(losses, loss(77, 7))
		order, lost, e := river.Order(example())
		if !slices.Equal(order, ints(12, 11, 13, 31)) || lost != 600 || e != api.OK {
			t.Error(order, lost, e)
		}
		testhelp.Spoil(order, 77)
		wrong, e := river.Wrong(f)
		if !slices.Equal(wrong, ints(1)) || e != api.OK {
			t.Error(wrong, e)
		}
		testhelp.Spoil(wrong, 77)
	}
}

// P1, R4: nil lists and empty ones are the same.
func TestNilAndEmpty(t *testing.T) {
	a := rows(ints(1, 2, 3, 4, 5, 6, 7), pile(1, 1), pile(2, 2))
	a.House.Owners, a.Gangs, a.Worths = nil, nil, nil
	b := copied(a)
	b.House.Owners, b.House.Moves, b.House.Rain, b.House.Found = []api.Owned{}, []api.Move{}, ints(), []api.Found{}
	b.House.Stacks = []api.Stack{pile(1, 1, ints()...), {Id: 2, Row: 2, Bales: ints()}}
	b.Gangs, b.Worths, b.Reports = []api.Gang{}, []api.Worth{}, []api.Report{}
	for _, y := range calls() {
		for _, l := range [][]int{nil, ints(), ints(0, 0)} {
			x := asks{1, 1, 1, l, l, gang(1, 1, 1), report(1, 1, 1, true), l}
			is, e := y.do(a, x)
			if also, g := y.do(b, x); e != g || is != also {
				t.Error(y.name, is, e, also, g)
			}
		}
	}
}
