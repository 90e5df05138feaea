package fire_test

import (
	"math"
	"slices"
	"testing"

	"middling/api"
	"middling/fire"
	"middling/testhelp"
)

// roomier is full without the sixth glance, 51.
func roomier() api.Blaze {
	b := full()
	b.Glances = slices.Delete(b.Glances, 5, 6)
	return b
}

// P11.7: a glance more, in its place.
func TestPut(t *testing.T) {
	two := example(glance(2, 1, 0, false), glance(9, 1, 0, false))
	for i, x := range []struct {
		b  api.Blaze
		x  api.Glance
		at int
		e  api.Errno
	}{
		{example(), glance(1, 3, 600, true), 0, api.OK}, {two, glance(5, 1, 0, true), 1, api.OK}, {two, glance(1, 1, 0, true), 0, api.OK}, {two, glance(9999, 2, 33, false), 2, api.OK}, {roomier(), glance(51, 9999, 0, false), 5, api.OK},
		// It may be false, and no truth is left then, or there was none.
		{seen(), glance(3, 1, 20, false), 2, api.OK}, {odd(), glance(4, 2, 20, true), 3, api.OK}, {torn(), glance(4, 2, 20, true), 2, api.OK}, {example(), glance(3, 1, 0, true), 0, api.OK},
		{full(), glance(52, 1, 0, false), 0, api.ErrFull}, {full(), glance(1, 1, 0, false), 0, api.ErrFull}, {full(), api.Glance{}, 0, api.ErrFull}, {broken(), glance(3, 1, 0, true), 0, api.ErrBlaze}, {broken(), api.Glance{}, 0, api.ErrBlaze},
		{example(), api.Glance{}, 0, api.ErrGlance}, {two, glance(2, 1, 0, false), 0, api.ErrGlance}, {two, glance(9, 1, 0, true), 0, api.ErrGlance}, {two, glance(0, 1, 0, true), 0, api.ErrGlance}, {two, glance(-1, 1, 0, true), 0, api.ErrGlance}, {two, glance(10000, 1, 0, true), 0, api.ErrGlance}, {two, glance(math.MinInt, 1, 0, true), 0, api.ErrGlance}, {two, glance(math.MaxInt, 1, 0, true), 0, api.ErrGlance},
		{two, glance(3, 0, 0, true), 0, api.ErrGlance}, {two, glance(3, 4, 0, true), 0, api.ErrGlance}, {two, glance(3, math.MinInt, 0, true), 0, api.ErrGlance}, {two, glance(3, math.MaxInt, 0, true), 0, api.ErrGlance}, {two, glance(3, 1, -1, true), 0, api.ErrGlance}, {two, glance(3, 1, 601, true), 0, api.ErrGlance}, {two, glance(3, 1, math.MinInt, true), 0, api.ErrGlance}, {two, glance(3, 1, math.MaxInt, true), 0, api.ErrGlance},
	} {
		want := api.Blaze{}
		if x.e == api.OK {
			want = copied(x.b)
			want.Glances = slices.Insert(want.Glances, x.at, x.x)
		}
		if y, e := fire.Put(x.b, x.x); e != x.e || !same(y, want) {
			t.Error(i, y, e)
		}
	}
}

// P11.7: some glances less.
func TestStrike(t *testing.T) {
	for i, x := range []struct {
		b       api.Blaze
		numbers []int
		e       api.Errno
	}{
		{example(), nil, api.OK}, {seen(), nil, api.OK}, {seen(), ints(), api.OK}, {seen(), ints(1), api.OK}, {seen(), ints(2), api.OK}, {seen(), ints(1, 2), api.OK}, {odd(), ints(1, 3), api.OK}, {torn(), ints(1, 2), api.OK}, {full(), ints(1, 9999), api.OK}, {full(), ints(11, 21, 31, 41, 51, 61), api.OK},
		{broken(), nil, api.ErrBlaze}, {broken(), ints(1), api.ErrBlaze}, {example(), ints(1), api.ErrGlance}, {seen(), ints(2, 1), api.ErrGlance}, {seen(), ints(1, 1), api.ErrGlance}, {seen(), ints(3), api.ErrGlance}, {seen(), ints(1, 3), api.ErrGlance}, {seen(), ints(0), api.ErrGlance}, {seen(), ints(0, 1), api.ErrGlance}, {seen(), ints(math.MinInt, 1), api.ErrGlance}, {seen(), ints(1, math.MaxInt), api.ErrGlance}, {seen(), ints(1, 2, 3), api.ErrGlance},
	} {
		want := api.Blaze{}
		if x.e == api.OK {
			want = without(x.b, x.numbers)
		}
		if y, e := fire.Strike(x.b, x.numbers); e != x.e || !same(y, want) {
			t.Error(i, y, e)
		}
	}
}

// all is a blaze with something in each of its lists.
func all(l ...api.Glance) api.Blaze {
	b := example(l...)
	b.House.Moves, b.House.Rain, b.House.Found = moved().House.Moves, ints(1, 3), []api.Found{{Number: 1, Bale: 12, Wet: true}}
	b.Books.Pledges = []api.Pledge{{Number: 1, Paper: 1, By: 5, Bank: 90, From: span(0, 1), Until: span(1, 2)}}
	return b
}

// roomy is a blaze whose lists have capacity behind their ends, in which nothing may be written.
func roomy(b api.Blaze) api.Blaze {
	w, p := &b.House, &b.Books
	w.Stacks = testhelp.Grown(w.Stacks)
	for at := range w.Stacks {
		w.Stacks[at].Bales = testhelp.Grown(w.Stacks[at].Bales)
	}
	w.Owners, w.Moves, w.Rain, w.Found = testhelp.Grown(w.Owners), testhelp.Grown(w.Moves), testhelp.Grown(w.Rain), testhelp.Grown(w.Found)
	p.Papers, p.Passes, p.Pledges = testhelp.Grown(p.Papers), testhelp.Grown(p.Passes), testhelp.Grown(p.Pledges)
	b.Begins, b.Gaps, b.Glances = testhelp.Grown(b.Begins), testhelp.Grown(b.Gaps), testhelp.Grown(b.Glances)
	return b
}

// whole is a copy of a blaze with all that is behind the ends of its lists.
func whole(b api.Blaze) api.Blaze {
	w, p := &b.House, &b.Books
	w.Stacks = slices.Clone(w.Stacks[:cap(w.Stacks)])
	for at, x := range w.Stacks {
		w.Stacks[at].Bales = x.Bales[:cap(x.Bales)]
	}
	w.Owners, w.Moves, w.Rain, w.Found = w.Owners[:cap(w.Owners)], w.Moves[:cap(w.Moves)], w.Rain[:cap(w.Rain)], w.Found[:cap(w.Found)]
	p.Papers, p.Passes, p.Pledges = p.Papers[:cap(p.Papers)], p.Passes[:cap(p.Passes)], p.Pledges[:cap(p.Pledges)]
	b.Begins, b.Gaps, b.Glances = b.Begins[:cap(b.Begins)], b.Gaps[:cap(b.Gaps)], b.Glances[:cap(b.Glances)]
	return copied(b)
}

// P1, R3: no argument is written to, also not behind its end.
func TestArgumentsStay(t *testing.T) {
	for _, b := range []api.Blaze{roomy(all(glance(1, 2, 14, true))), roomy(odd()), roomy(torn()), roomy(ring(glance(2, 3, 5, false))), roomy(roomier())} {
		before := whole(b)
		for _, l := range [][]int{nil, ints(1), ints(1, 2), ints(2), ints(2, 1)} {
			kept := testhelp.Grown(l)
			for _, y := range calls() {
				for _, n := range ints(1, 2, 3, 11, 600) {
					y.do(b, asks{n, 2, n, n, n, glance(n, 1, n, true), kept})
					y.do(b, asks{3, n, 14, 11, 1, glance(77, 2, n, false), kept})
				}
			}
			if !slices.Equal(kept[:cap(kept)], append(slices.Clone(l), make([]int, cap(kept)-len(l))...)) {
				t.Error(kept[:cap(kept)])
			}
		}
		if !same(whole(b), before) {
			t.Error(whole(b))
		}
	}
}

// spoil writes over all memory of a blaze.
func spoil(b api.Blaze) {
	for _, x := range b.House.Stacks {
		testhelp.Spoil(x.Bales, 77)
	}
	testhelp.Spoil(b.House.Stacks, pile(77, 7))
	testhelp.Spoil(b.House.Owners, owned(77, 7))
	testhelp.Spoil(b.House.Moves, api.Move{Day: 7})
	testhelp.Spoil(b.House.Rain, 77)
	testhelp.Spoil(b.House.Found, api.Found{Number: 77})
	testhelp.Spoil(b.Books.Papers, sheet(77, 7, 7))
	testhelp.Spoil(b.Books.Passes, pass(77, 7, 7, 7, 7, 7))
	testhelp.Spoil(b.Books.Pledges, api.Pledge{Number: 77})
	testhelp.Spoil(b.Begins, 77)
	testhelp.Spoil(b.Gaps, gap(77, 7, 7, 7))
	testhelp.Spoil(b.Glances, glance(77, 7, 7, true))
}

// P1, R3: a result shares no memory with an argument, nor with another result.
func TestResultsAreNew(t *testing.T) {
	b := roomy(all(glance(1, 2, 14, true), glance(2, 3, 15, false)))
	before := whole(b)
	put, _ := fire.Put(b, glance(3, 1, 1, true))
	also, _ := fire.Put(put, glance(4, 1, 1, true))
	every, _ := fire.Strike(b, nil)
	fewer, _ := fire.Strike(b, ints(2))
	again, _ := fire.Strike(every, nil)
	results := []api.Blaze{put, also, every, fewer, again}
	if slices.ContainsFunc(results, func(x api.Blaze) bool {
		return !sameHouse(x.House, b.House) || !sameBooks(x.Books, b.Books) || x.Day != 2 || !slices.Equal(x.Begins, b.Begins) || x.Start != b.Start || !slices.Equal(x.Gaps, b.Gaps) || len(x.Glances) < 1
	}) {
		t.Error(results)
	}
	if !testhelp.Apart(results, copied, same, spoil) || !same(whole(b), before) {
		t.Error(whole(b))
	}
}

// P1, R3: nothing is remembered, also not by a list that is told.
func TestListsAreNew(t *testing.T) {
	b := seen()
	for range 2 {
		began, e := fire.Began(b)
		if !slices.Equal(began, ints(1)) || e != api.OK {
			t.Error(began, e)
		}
		testhelp.Spoil(began, 77)
		sure, may, e := fire.Lost(b, 600)
		if !slices.Equal(sure, ints(11, 12, 21, 31)) || e != api.OK {
			t.Error(sure, e)
		}
		// Alike as they are, they share no memory.
		testhelp.Spoil(sure, 77)
		if !slices.Equal(may, ints(11, 12, 21, 31)) {
			t.Error(may)
		}
		testhelp.Spoil(may, 77)
		whose, e := fire.Whose(b, 11)
		if !slices.Equal(whose, ints(5, 6)) || e != api.OK {
			t.Error(whose, e)
		}
		testhelp.Spoil(whose, 77)
		wrong, e := fire.Wrong(odd())
		if !slices.Equal(wrong, ints(3)) || e != api.OK {
			t.Error(wrong, e)
		}
		testhelp.Spoil(wrong, 77)
	}
}

// P1, R4: nil lists and empty ones are the same.
func TestNilAndEmpty(t *testing.T) {
	a := row(2, span(0, 0))
	b := copied(a)
	b.House.Owners, b.House.Moves, b.House.Rain, b.House.Found = []api.Owned{}, []api.Move{}, ints(), []api.Found{}
	b.House.Stacks = []api.Stack{pile(1, 1, ints()...), {Id: 2, Row: 1, Bales: ints()}}
	b.Books.Papers, b.Books.Passes, b.Books.Pledges = []api.Paper{}, []api.Pass{}, []api.Pledge{}
	b.Gaps, b.Glances = []api.Gap{}, []api.Glance{}
	for _, y := range calls() {
		for _, l := range [][]int{nil, ints()} {
			x := asks{1, 2, 1, 1, 1, glance(1, 1, 1, true), l}
			is, e := y.do(a, x)
			if also, f := y.do(b, x); e != f || is != also {
				t.Error(y.name, is, e, also, f)
			}
		}
	}
	for _, x := range []api.Blaze{a, b} {
		if e := fire.Check(x); e != api.OK {
			t.Error(e)
		}
	}
}
