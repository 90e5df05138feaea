package box_test

import (
	"math"
	"slices"
	"testing"

	"middling/api"
	"middling/box"
	"middling/testhelp"
)

// P1.7: a match more.
func TestPut(t *testing.T) {
	seven := example(many(7)...)
	for i, x := range []struct {
		r  api.Room
		x  api.Match
		at int
		e  api.Errno
	}{
		{example(), first(), 0, api.OK}, {example(first()), second(), 1, api.OK}, {example(first(), second()), match(3, 1, 2, 1, 0, 0), 2, api.OK}, {example(first()), match(9999, 3, 2, 1, -60, 60), 1, api.OK},
		{seven, match(35, 1, 1, 2, 0, 0), 3, api.OK}, {seven, match(1, 1, 1, 2, 60, 60), 0, api.OK}, {seven, match(99, 1, 1, 2, 0, 0), 7, api.OK},
		{example(many(8)...), match(35, 1, 1, 2, 0, 0), 0, api.ErrFull}, {example(many(8)...), api.Match{}, 0, api.ErrFull},
		{seven, match(40, 2, 1, 2, 0, 0), 0, api.ErrMatch}, {example(), api.Match{}, 0, api.ErrMatch}, {example(), match(0, 2, 1, 2, 0, 0), 0, api.ErrMatch}, {example(), match(10000, 2, 1, 2, 0, 0), 0, api.ErrMatch}, {example(first()), match(math.MinInt, 2, 1, 2, 0, 0), 0, api.ErrMatch},
		{example(), match(1, 0, 1, 2, 0, 0), 0, api.ErrMatch}, {example(), match(1, 4, 1, 2, 0, 0), 0, api.ErrMatch}, {example(), match(1, -1, 1, 2, 0, 0), 0, api.ErrMatch}, {example(), match(1, 2, 1, 1, 0, 0), 0, api.ErrMatch}, {example(), match(1, 2, 3, 2, 0, 0), 0, api.ErrMatch}, {example(), match(1, 2, 1, 3, 0, 0), 0, api.ErrMatch},
		{example(), match(1, 2, 1, 2, 1, 0), 0, api.ErrMatch}, {example(), match(1, 2, 1, 2, -61, 0), 0, api.ErrMatch}, {example(), match(1, 2, 1, 2, 0, 61), 0, api.ErrMatch},
	} {
		y, e := box.Put(x.r, x.x)
		want := api.Room{}
		if x.e == api.OK {
			want = copied(x.r)
			want.Matches = slices.Insert(want.Matches, x.at, x.x)
		}
		if e != x.e || !same(y, want) {
			t.Error(i, y, e)
		}
	}
}

// P1.7: some matches less.
func TestStrike(t *testing.T) {
	all := ints(10, 20, 30, 40, 50, 60, 70, 80)
	for i, x := range []struct {
		l, left []int
		e       api.Errno
	}{
		{nil, all, api.OK}, {ints(), all, api.OK}, {ints(10), all[1:], api.OK}, {ints(80), all[:7], api.OK}, {ints(10, 40, 80), ints(20, 30, 50, 60, 70), api.OK}, {all, nil, api.OK},
		{ints(40, 20), nil, api.ErrMatch}, {ints(20, 20), nil, api.ErrMatch}, {ints(30, 31), nil, api.ErrMatch}, {ints(5), nil, api.ErrMatch}, {ints(0), nil, api.ErrMatch}, {ints(-10, 10), nil, api.ErrMatch}, {append(slices.Clone(all), 90), nil, api.ErrMatch}, {ints(10, math.MaxInt), nil, api.ErrMatch},
	} {
		r := example(many(8)...)
		want := api.Room{}
		if x.e == api.OK {
			want = copied(r)
			want.Matches = slices.DeleteFunc(want.Matches, func(m api.Match) bool { return !slices.Contains(x.left, m.Number) })
		}
		if y, e := box.Strike(r, x.l); e != x.e || !same(y, want) {
			t.Error(i, y, e)
		}
	}
}

// P1.7: a box more.
func TestAdd(t *testing.T) {
	full := alike()
	full.Boxes = append(full.Boxes, api.Box{Id: 9})
	for i, x := range []struct {
		r  api.Room
		x  api.Box
		at int
		e  api.Errno
	}{
		{example(first()), api.Box{Id: 9999, Made: 3}, 2, api.OK}, {alike(match(1, 1, 3, 8, 0, 0)), api.Box{Id: 1}, 0, api.OK}, {alike(match(1, 1, 3, 8, 0, 0)), api.Box{Id: 4, Made: 2}, 1, api.OK}, {alike(), api.Box{Id: 6}, 2, api.OK}, {alike(), api.Box{Id: 9}, 3, api.OK},
		{full, api.Box{Id: 4}, 0, api.ErrFull}, {full, api.Box{}, 0, api.ErrFull},
		{example(), api.Box{Id: 2}, 0, api.ErrBox}, {example(), api.Box{}, 0, api.ErrBox}, {example(), api.Box{Id: 10000}, 0, api.ErrBox}, {example(), api.Box{Id: math.MinInt}, 0, api.ErrBox}, {example(), api.Box{Id: 3, Made: 4}, 0, api.ErrBox}, {example(), api.Box{Id: 3, Made: -1}, 0, api.ErrBox},
	} {
		y, e := box.Add(x.r, x.x)
		want := api.Room{}
		if x.e == api.OK {
			want = copied(x.r)
			want.Boxes = slices.Insert(want.Boxes, x.at, x.x)
		}
		if e != x.e || !same(y, want) {
			t.Error(i, y, e)
		}
	}
}

// roomy is a room whose lists have capacity behind their ends, in which nothing may be written.
func roomy() api.Room {
	r := example(first(), match(5, 3, 1, 2, 2, 9), match(7, 2, 2, 1, -9, 0))
	r.Ages, r.Boxes, r.Matches = testhelp.Grown(r.Ages), testhelp.Grown(r.Boxes), testhelp.Grown(r.Matches)
	return r
}

func whole(r api.Room) api.Room {
	r.Ages, r.Boxes, r.Matches = r.Ages[:cap(r.Ages)], r.Boxes[:cap(r.Boxes)], r.Matches[:cap(r.Matches)]
	return r
}

// P1, R3: no argument is written to, also not behind its end.
func TestArgumentsStay(t *testing.T) {
	r := roomy()
	before := copied(whole(r))
	list := append(make([]int, 0, 9), 1, 7)
	for _, c := range calls() {
		for _, month := range ints(1, 2, 3) {
			c.do(r, 1, 2, month)
		}
	}
	if _, e := box.Put(r, match(3, 3, 1, 2, 0, 9)); e != api.OK {
		t.Error(e)
	}
	if _, e := box.Strike(r, list); e != api.OK {
		t.Error(e)
	}
	if _, e := box.Add(r, api.Box{Id: 1}); e != api.ErrBox {
		t.Error(e)
	}
	if !same(whole(r), before) {
		t.Error(whole(r))
	}
	if !slices.Equal(list[:9], ints(1, 7, 0, 0, 0, 0, 0, 0, 0)) {
		t.Error(list[:9])
	}
}

// spoil writes over all memory of a room.
func spoil(r api.Room) {
	testhelp.Spoil(r.Ages, span(77, 77))
	testhelp.Spoil(r.Boxes, api.Box{Id: 77})
	testhelp.Spoil(r.Matches, match(77, 7, 7, 7, 7, 7))
}

// P1, R3: a result shares no memory with an argument, nor with another result.
func TestResultsAreNew(t *testing.T) {
	r := roomy()
	before := copied(whole(r))
	a, _ := box.Put(r, match(3, 3, 1, 2, 0, 9))
	b, _ := box.Strike(r, nil)
	c, _ := box.Strike(r, ints(7))
	d, _ := box.Add(r, api.Box{Id: 3})
	e, _ := box.Strike(d, nil)
	if !testhelp.Apart([]api.Room{a, b, c, d, e}, copied, same, spoil) || !same(whole(r), before) {
		t.Error(whole(r))
	}
}

// P1, R4: nil lists and empty ones are the same.
func TestNilAndEmpty(t *testing.T) {
	r := api.Room{Months: 1, Ages: []api.Span{{}}}
	s := api.Room{Months: 1, Ages: []api.Span{{}}, Boxes: []api.Box{}, Matches: []api.Match{}}
	for _, c := range calls() {
		_, e := c.do(r, 1, 2, 0)
		if _, f := c.do(s, 1, 2, 0); e != f {
			t.Error(c.name, e, f)
		}
	}
	if y, e := box.Add(s, api.Box{Id: 1}); len(y.Boxes) != 1 || e != api.OK {
		t.Error(y, e)
	}
}
