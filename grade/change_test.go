package grade_test

import (
	"math"
	"slices"
	"testing"

	"middling/api"
	"middling/grade"
	"middling/testhelp"
)

func full(n int) api.Desk {
	d := example()
	d.Looks = many(n)
	return d
}

// P2.7: a look more, in its place.
func TestPut(t *testing.T) {
	for i, x := range []struct {
		d  api.Desk
		x  api.Look
		at int
		e  api.Errno
	}{
		{example(), look(9, 3, 103, 3, 2, 9), 5, api.OK}, {example(), look(9999, 1, 103, 0, 1, 1), 5, api.OK}, {full(11), look(1, 1, 103, 0, 1, 1), 0, api.OK}, {full(11), look(35, 1, 103, 0, 1, 1), 3, api.OK}, {full(11), look(999, 1, 103, 0, 1, 1), 11, api.OK}, {plain(0), look(5, 4, 2, 1, 2, 1), 0, api.OK}, {odd(), look(8, 1, 101, 0, 1, 1), 7, api.OK}, {dry(), look(8, 1, 101, 0, 1, 1), 5, api.OK},
		{full(12), look(35, 1, 103, 0, 1, 1), 0, api.ErrFull}, {full(12), api.Look{}, 0, api.ErrFull},
		{full(11), look(40, 1, 103, 0, 1, 1), 0, api.ErrLook}, {example(), api.Look{}, 0, api.ErrLook}, {example(), look(10000, 1, 103, 0, 1, 1), 0, api.ErrLook}, {example(), look(0, 1, 103, 0, 1, 1), 0, api.ErrLook}, {example(), look(math.MinInt, 1, 103, 0, 1, 1), 0, api.ErrLook},
		{example(), look(9, 4, 103, 0, 1, 1), 0, api.ErrLook}, {example(), look(9, 1, 104, 0, 1, 1), 0, api.ErrLook}, {example(), look(9, 1, 103, 4, 1, 1), 0, api.ErrLook}, {example(), look(9, 1, 103, -1, 1, 1), 0, api.ErrLook}, {example(), look(9, 1, 103, 0, 2, 1), 0, api.ErrLook}, {example(), look(9, 1, 103, 0, 3, 1), 0, api.ErrLook}, {example(), look(9, 1, 103, 0, 1, 0), 0, api.ErrLook}, {example(), look(9, 1, 103, 0, 1, 10), 0, api.ErrLook},
	} {
		want := api.Desk{}
		if x.e == api.OK {
			want = copied(x.d)
			want.Looks = slices.Insert(want.Looks, x.at, x.x)
		}
		if y, e := grade.Put(x.d, x.x); e != x.e || !same(y, want) {
			t.Error(i, y, e)
		}
	}
}

// P2.7: some looks less.
func TestStrike(t *testing.T) {
	for i, x := range []struct {
		l, left []int
		e       api.Errno
	}{
		{nil, ints(1, 2, 3, 4, 5), api.OK}, {ints(), ints(1, 2, 3, 4, 5), api.OK}, {ints(1), ints(2, 3, 4, 5), api.OK}, {ints(2, 5), ints(1, 3, 4), api.OK}, {ints(1, 2, 3, 4, 5), nil, api.OK},
		{ints(5, 2), nil, api.ErrLook}, {ints(2, 2), nil, api.ErrLook}, {ints(2, 6), nil, api.ErrLook}, {ints(0), nil, api.ErrLook}, {ints(-1, 1), nil, api.ErrLook}, {ints(1, math.MaxInt), nil, api.ErrLook}, {ints(1, 2, 3, 4, 5, 6), nil, api.ErrLook},
	} {
		want := api.Desk{}
		if x.e == api.OK {
			want = example()
			want.Looks = slices.DeleteFunc(want.Looks, func(y api.Look) bool { return !slices.Contains(x.left, y.Number) })
		}
		if y, e := grade.Strike(example(), x.l); e != x.e || !same(y, want) {
			t.Error(i, y, e)
		}
	}
}

// roomy is a desk whose lists have capacity behind their ends, in which nothing may be written.
func roomy() api.Desk {
	d := example(look(8, 3, 102, 3, 2, 6))
	d.Bales, d.Classers, d.Looks = testhelp.Grown(d.Bales), testhelp.Grown(d.Classers), testhelp.Grown(d.Looks)
	d.Room.Ages, d.Room.Boxes, d.Room.Matches = testhelp.Grown(d.Room.Ages), testhelp.Grown(d.Room.Boxes), testhelp.Grown(d.Room.Matches)
	return d
}

func whole(d api.Desk) api.Desk {
	d.Bales, d.Classers, d.Looks = d.Bales[:cap(d.Bales)], d.Classers[:cap(d.Classers)], d.Looks[:cap(d.Looks)]
	d.Room.Ages, d.Room.Boxes, d.Room.Matches = d.Room.Ages[:cap(d.Room.Ages)], d.Room.Boxes[:cap(d.Room.Boxes)], d.Room.Matches[:cap(d.Room.Matches)]
	return d
}

// P1, R3: no argument is written to, also not behind its end.
func TestArgumentsStay(t *testing.T) {
	d := roomy()
	before := copied(whole(d))
	list := append(make([]int, 0, 9), 1, 8)
	for _, c := range calls() {
		for _, n := range ints(1, 2, 3) {
			c.do(d, asks{n, 3, 100 + n, 102, n, n, 1})
		}
	}
	if _, e := grade.Put(d, look(7, 1, 103, 0, 1, 1)); e != api.OK {
		t.Error(e)
	}
	if _, e := grade.Strike(d, list); e != api.OK {
		t.Error(e)
	}
	if !same(whole(d), before) {
		t.Error(whole(d))
	}
	if !slices.Equal(list[:9], ints(1, 8, 0, 0, 0, 0, 0, 0, 0)) {
		t.Error(list[:9])
	}
}

// spoil writes over all memory of a desk.
func spoil(d api.Desk) {
	testhelp.Spoil(d.Bales, 77)
	testhelp.Spoil(d.Classers, 77)
	testhelp.Spoil(d.Looks, look(77, 7, 7, 7, 7, 7))
	testhelp.Spoil(d.Room.Ages, span(77, 77))
	testhelp.Spoil(d.Room.Boxes, api.Box{Id: 77})
	testhelp.Spoil(d.Room.Matches, api.Match{Number: 77})
}

// P1, R3: a result shares no memory with an argument, nor with another result.
func TestResultsAreNew(t *testing.T) {
	d := roomy()
	before := copied(whole(d))
	a, _ := grade.Put(d, look(7, 1, 103, 0, 1, 1))
	b, _ := grade.Strike(d, nil)
	c, _ := grade.Strike(d, ints(8))
	e, _ := grade.Strike(b, nil)
	if !testhelp.Apart([]api.Desk{a, b, c, e}, copied, same, spoil) || !same(whole(d), before) {
		t.Error(whole(d))
	}
	for _, list := range []func(api.Desk) ([]int, api.Errno){
		grade.Third, grade.Wrong,
		func(d api.Desk) ([]int, api.Errno) { return grade.Proof(d, 1) },
		func(d api.Desk) ([]int, api.Errno) { return grade.Why(d, 102) },
	} {
		l, _ := list(d)
		testhelp.Spoil(l, 77)
		if !same(whole(d), before) {
			t.Error(l)
		}
	}
}

// P1, R4: nil lists and empty ones are the same.
func TestNilAndEmpty(t *testing.T) {
	r := api.Room{Months: 1, Ages: []api.Span{{}}}
	a := api.Desk{Room: r}
	b := api.Desk{Room: r, Bales: []int{}, Classers: []int{}, Looks: []api.Look{}}
	b.Room.Boxes, b.Room.Matches = []api.Box{}, []api.Match{}
	for _, c := range calls() {
		_, e := c.do(a, asks{})
		if _, f := c.do(b, asks{}); e != f {
			t.Error(c.name, e, f)
		}
	}
	for _, d := range []api.Desk{a, b} {
		if is, e := grade.Can(d); !is || e != api.OK {
			t.Error(is, e)
		}
		if y, e := grade.Strike(d, []int{}); !same(y, a) || e != api.OK {
			t.Error(y, e)
		}
	}
}
