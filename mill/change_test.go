package mill_test

import (
	"math"
	"slices"
	"testing"

	"middling/api"
	"middling/mill"
	"middling/testhelp"
)

// P9.7: a bale more, in its place.
func TestPut(t *testing.T) {
	wrong := cotton(9, 30, 80)
	wrong.Bale.Layers = 0
	heavy := api.Cotton{Bale: weighed(9), Length: 30, Strength: 80}
	heavy.Bale.Weighs[0].Pounds = 1201
	six := full()
	six.Cottons = six.Cottons[1:]
	for i, x := range []struct {
		m  api.Mill
		x  api.Cotton
		at int
		e  api.Errno
	}{
		{example(2), cotton(9999, 60, 200), 6, api.OK}, {example(2), cotton(7, 1, 1), 6, api.OK}, {example(3), api.Cotton{Bale: two(8), Length: 9, Strength: 9}, 6, api.OK}, {example(1), api.Cotton{Bale: torn(8), Length: 9, Strength: 9}, 6, api.OK}, {line(3, 4), api.Cotton{Bale: weighed(5), Length: 9, Strength: 9}, 0, api.OK}, {six, cotton(1, 30, 80), 0, api.OK}, {api.Mill{Lots: 1, Size: 2, Cottons: []api.Cotton{cotton(5, 1, 1), cotton(9, 1, 1)}}, cotton(8, 1, 1), 1, api.OK},
		{full(), cotton(8, 30, 80), 0, api.ErrFull}, {full(), api.Cotton{}, 0, api.ErrFull}, {full(), cotton(1, 20, 100), 0, api.ErrFull},
		{example(2), api.Cotton{}, 0, api.ErrCotton}, {example(2), cotton(3, 30, 80), 0, api.ErrCotton}, {example(2), cotton(6, 30, 80), 0, api.ErrCotton}, {example(2), cotton(0, 30, 80), 0, api.ErrCotton}, {example(2), cotton(-1, 30, 80), 0, api.ErrCotton}, {example(2), cotton(10000, 30, 80), 0, api.ErrCotton}, {example(2), cotton(math.MinInt, 30, 80), 0, api.ErrCotton}, {example(2), cotton(math.MaxInt, 30, 80), 0, api.ErrCotton},
		{example(2), wrong, 0, api.ErrCotton}, {example(2), heavy, 0, api.ErrCotton}, {example(2), api.Cotton{Bale: blank(9, 6), Length: 9, Strength: 9}, 0, api.ErrCotton}, {example(2), cotton(7, 0, 80), 0, api.ErrCotton}, {example(2), cotton(7, 61, 80), 0, api.ErrCotton}, {example(2), cotton(7, math.MaxInt, 80), 0, api.ErrCotton}, {example(2), cotton(7, 30, 0), 0, api.ErrCotton}, {example(2), cotton(7, 30, 201), 0, api.ErrCotton}, {example(2), cotton(7, 30, math.MinInt), 0, api.ErrCotton}, {broken(), cotton(8, 30, 80), 0, api.ErrMill}, {broken(), api.Cotton{}, 0, api.ErrMill},
	} {
		want := api.Mill{}
		if x.e == api.OK {
			want = copied(x.m)
			want.Cottons = slices.Insert(want.Cottons, x.at, x.x)
		}
		if y, e := mill.Put(x.m, x.x); e != x.e || !same(y, want) {
			t.Error(i, y, e)
		}
	}
}

// P9.7: a bale less.
func TestTake(t *testing.T) {
	for i, x := range []struct {
		m    api.Mill
		bale int
		want []int
		e    api.Errno
	}{
		{example(2), 1, ints(2, 3, 4, 5, 6), api.OK}, {example(2), 3, ints(1, 2, 4, 5, 6), api.OK}, {example(3), 6, ints(1, 2, 3, 4, 5), api.OK}, {full(), 7, ints(1, 2, 3, 4, 5, 6), api.OK}, {line(1, 2, 5), 1, nil, api.OK},
		{example(2), 7, nil, api.ErrNone}, {example(2), 0, nil, api.ErrNone}, {example(2), -1, nil, api.ErrNone}, {example(2), 10000, nil, api.ErrNone}, {example(2), math.MinInt, nil, api.ErrNone}, {example(2), math.MaxInt, nil, api.ErrNone}, {line(1, 2), 1, nil, api.ErrNone}, {broken(), 3, nil, api.ErrMill}, {broken(), 7, nil, api.ErrMill},
	} {
		want := api.Mill{}
		if x.e == api.OK {
			want = copied(x.m)
			want.Cottons = slices.DeleteFunc(want.Cottons, func(y api.Cotton) bool { return y.Bale.Id == x.bale })
		}
		if y, e := mill.Take(x.m, x.bale); e != x.e || !same(y, want) || !slices.Equal(ids(y), x.want) {
			t.Error(i, y, e)
		}
	}
}

// P9.7: other lots, with the chapter's example.
func TestWant(t *testing.T) {
	for i, x := range []struct {
		m          api.Mill
		lots, size int
		e          api.Errno
	}{
		{example(2), 3, 2, api.OK}, {example(2), 1, 2, api.OK}, {example(2), 3, 4, api.OK}, {example(2), 2, 2, api.OK}, {line(1, 2), 3, 3, api.OK}, {full(), 1, 4, api.OK},
		{example(2), 0, 2, api.ErrWant}, {example(2), 4, 2, api.ErrWant}, {example(2), 1, 1, api.ErrWant}, {example(2), 1, 5, api.ErrWant}, {example(2), 0, 0, api.ErrWant}, {example(2), -1, 2, api.ErrWant}, {example(2), math.MinInt, math.MinInt, api.ErrWant}, {example(2), math.MaxInt, 2, api.ErrWant}, {example(2), 2, math.MaxInt, api.ErrWant}, {broken(), 3, 2, api.ErrMill}, {broken(), 0, 0, api.ErrMill}, {api.Mill{}, 1, 2, api.ErrMill},
	} {
		want := api.Mill{}
		if x.e == api.OK {
			want = copied(x.m)
			want.Lots, want.Size = x.lots, x.size
		}
		if y, e := mill.Want(x.m, x.lots, x.size); e != x.e || !same(y, want) {
			t.Error(i, y, e)
		}
	}
	m, e := mill.Want(example(2), 3, 2)
	if l, f := mill.Best(m); e != api.OK || len(l) > 0 || f != api.ErrFew {
		t.Error(m, e, l, f)
	}
}

// roomyCotton has lists with capacity behind their ends, in which nothing may be written.
func roomyCotton(x api.Cotton) api.Cotton {
	x.Bale.Draws, x.Bale.Weighs = testhelp.Grown(x.Bale.Draws), testhelp.Grown(x.Bale.Weighs)
	return x
}

// roomy is a mill whose lists are so too, all with something in them.
func roomy() api.Mill {
	m := example(2)
	for at := range m.Cottons {
		m.Cottons[at].Bale.Weighs = weighed(1).Weighs
		m.Cottons[at] = roomyCotton(m.Cottons[at])
	}
	m.Cottons = testhelp.Grown(m.Cottons)
	return m
}

// whole is a copy of a mill with all that is behind the ends of its lists.
func whole(m api.Mill) api.Mill {
	m.Cottons = slices.Clone(m.Cottons[:cap(m.Cottons)])
	for at := range m.Cottons {
		b := &m.Cottons[at].Bale
		b.Draws, b.Weighs = b.Draws[:cap(b.Draws)], b.Weighs[:cap(b.Weighs)]
	}
	return copied(m)
}

// P1, R3: no argument is written to, also not behind its end.
func TestArgumentsStay(t *testing.T) {
	m, extra := roomy(), roomyCotton(api.Cotton{Bale: weighed(7), Length: 30, Strength: 80})
	before, was := whole(m), whole(api.Mill{Cottons: []api.Cotton{extra}})
	for _, l := range [][]int{ints(0, 1, 1, 2, 2, 0), ints(1, 1, 0, 2, 2, 0), ints(0, 1, 1, 2, 2)} {
		plan := testhelp.Grown(l)
		for _, f := range calls() {
			for n := range 8 {
				if is, e := f.do(m, asks{n, plan, n, extra, n, 2}); e != api.OK && !is {
					t.Error(f.name, is, e)
				}
			}
		}
		if !slices.Equal(plan[:cap(plan)], append(slices.Clone(l), make([]int, cap(plan)-len(l))...)) {
			t.Error(plan[:cap(plan)])
		}
	}
	if !same(whole(m), before) || !same(whole(api.Mill{Cottons: []api.Cotton{extra}}), was) {
		t.Error(whole(m), extra)
	}
}

// spoil writes over all memory of a mill.
func spoil(m api.Mill) {
	for _, x := range m.Cottons {
		testhelp.Spoil(x.Bale.Draws, api.Draw{Number: 77})
		testhelp.Spoil(x.Bale.Weighs, api.Weigh{Number: 77})
	}
	testhelp.Spoil(m.Cottons, api.Cotton{Length: 77})
}

// P1, R3: a result shares no memory with an argument, nor with another result.
func TestResultsAreNew(t *testing.T) {
	m, extra := roomy(), roomyCotton(api.Cotton{Bale: weighed(7), Length: 30, Strength: 80})
	before, was := whole(m), whole(api.Mill{Cottons: []api.Cotton{extra}})
	put, _ := mill.Put(m, extra)
	also, _ := mill.Put(m, extra)
	take, _ := mill.Take(m, 6)
	want, _ := mill.Want(m, 1, 4)
	left, _ := mill.Take(put, 1)
	wants, _ := mill.Want(put, 3, 2)
	results := []api.Mill{put, also, take, want, left, wants}
	if slices.ContainsFunc(results, func(x api.Mill) bool { return len(x.Cottons) < 5 }) {
		t.Error(results)
	}
	if !testhelp.Apart(results, copied, same, spoil) || !same(whole(m), before) || !same(whole(api.Mill{Cottons: []api.Cotton{extra}}), was) {
		t.Error(whole(m), extra)
	}
}

// P1, R3: nothing is remembered, also not by a list that is told; two lists of a result share no memory.
func TestListsAreNew(t *testing.T) {
	for range 2 {
		plan := ints(1, 1, 0, 2, 2, 0)
		fit, e := mill.Fit(example(2))
		best, f := mill.Best(example(2))
		again, g := mill.Best(example(2))
		needs, h := mill.Needs(example(2))
		order, step, i := mill.Run(example(2), plan)
		lots, j := mill.Lots(example(2), plan)
		results := append([][]int{fit, best, again, needs, order, plan}, lots...)
		want := [][]int{{1, 2, 3, 4, 5}, {0, 1, 1, 2, 2, 0}, {0, 1, 1, 2, 2, 0}, {2, 3, 4, 5}, {1, 2}, {1, 1, 0, 2, 2, 0}, {1, 2}, {4, 5}}
		if !slices.EqualFunc(results, want, slices.Equal) || step != 13 || slices.ContainsFunc([]api.Errno{e, f, g, h, i, j}, func(e api.Errno) bool { return e != api.OK }) {
			t.Error(results, step, e, f, g, h, i, j)
		}
		if !testhelp.Apart(results, slices.Clone, slices.Equal, func(l []int) { testhelp.Spoil(l, 77) }) {
			t.Error(results)
		}
	}
}

// P1, R4: nil lists and empty ones are the same.
func TestNilAndEmpty(t *testing.T) {
	a, b := line(1, 2), api.Mill{Lots: 1, Size: 2, Cottons: []api.Cotton{}}
	for _, f := range calls() {
		for _, plan := range [][]int{nil, ints(), ints(0)} {
			x := asks{1, plan, 1, cotton(1, 1, 1), 1, 2}
			is, e := f.do(a, x)
			if also, g := f.do(b, x); e != g || is != also {
				t.Error(f.name, is, e, also, g)
			}
		}
	}
	// Also the lists of a bale.
	bare, empty := blank(1, 1), blank(1, 1)
	empty.Draws, empty.Weighs = []api.Draw{}, []api.Weigh{}
	for _, m := range []api.Mill{a, b} {
		for _, y := range []api.Bale{bare, empty} {
			x, e := mill.Put(m, api.Cotton{Bale: y, Length: 1, Strength: 1})
			if l, f := mill.Fit(x); len(x.Cottons) != 1 || e != api.OK || !slices.Equal(l, ints(1)) || f != api.OK {
				t.Error(x, e, l, f)
			}
		}
	}
}
