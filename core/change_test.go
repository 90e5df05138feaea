package core_test

import (
	"math"
	"slices"
	"testing"

	"middling/api"
	"middling/core"
	"middling/testhelp"
)

// full has some draws and some weighings.
func full(draws, weighs int) api.Bale {
	b := example()
	b.Draws, b.Weighs = manyDraws(draws), manyWeighs(weighs)
	return b
}

// P3.8: a draw more, in its place.
func TestPut(t *testing.T) {
	for i, x := range []struct {
		b  api.Bale
		x  api.Draw
		at int
		e  api.Errno
	}{
		{example(), draw(9999, 2, 1, 9), 3, api.OK}, {full(9, 8), draw(1, 3, 9, 9), 0, api.OK}, {full(9, 0), draw(35, 0, 1, 1), 3, api.OK}, {full(9, 0), draw(999, 0, 1, 1), 9, api.OK}, {blank(1), draw(5, 0, 1, 9), 0, api.OK}, {example(), draw(4, 0, 5, 6), 3, api.OK}, {odd(), draw(5, 0, 1, 1), 4, api.OK}, {light(), draw(5, 0, 1, 1), 3, api.OK},
		{full(10, 0), draw(35, 0, 1, 1), 0, api.ErrFull}, {full(10, 0), draw(40, 0, 1, 1), 0, api.ErrFull}, {full(10, 0), api.Draw{}, 0, api.ErrFull},
		{full(9, 0), draw(40, 0, 1, 1), 0, api.ErrDraw}, {example(), draw(3, 2, 1, 9), 0, api.ErrDraw}, {example(), api.Draw{}, 0, api.ErrDraw}, {example(), draw(0, 2, 1, 9), 0, api.ErrDraw}, {example(), draw(10000, 2, 1, 9), 0, api.ErrDraw}, {example(), draw(math.MinInt, 2, 1, 9), 0, api.ErrDraw},
		{example(), draw(4, 4, 1, 9), 0, api.ErrDraw}, {example(), draw(4, -1, 1, 9), 0, api.ErrDraw}, {example(), draw(4, 2, 0, 9), 0, api.ErrDraw}, {example(), draw(4, 2, 1, 10), 0, api.ErrDraw}, {example(), draw(4, 2, 6, 5), 0, api.ErrDraw},
	} {
		want := api.Bale{}
		if x.e == api.OK {
			want = copied(x.b)
			want.Draws = slices.Insert(want.Draws, x.at, x.x)
		}
		if y, e := core.Put(x.b, x.x); e != x.e || !same(y, want) {
			t.Error(i, y, e)
		}
	}
}

// P3.8: a weighing more, in its place.
func TestWeighed(t *testing.T) {
	for i, x := range []struct {
		b  api.Bale
		x  api.Weigh
		at int
		e  api.Errno
	}{
		{example(), weigh(9999, 1200, 0, 200), 2, api.OK}, {full(10, 7), weigh(1, 1, 0, 0), 0, api.OK}, {full(0, 7), weigh(35, 1, 200, 200), 3, api.OK}, {full(0, 7), weigh(999, 1, 0, 0), 7, api.OK}, {blank(1), weigh(5, 9, 0, 0), 0, api.OK}, {odd(), weigh(3, 9, 0, 0), 2, api.OK}, {light(), weigh(4, 9, 0, 0), 3, api.OK},
		{full(0, 8), weigh(35, 1, 0, 0), 0, api.ErrFull}, {full(0, 8), weigh(40, 1, 0, 0), 0, api.ErrFull}, {full(0, 8), api.Weigh{}, 0, api.ErrFull},
		{full(0, 7), weigh(40, 1, 0, 0), 0, api.ErrWeigh}, {example(), weigh(2, 9, 0, 0), 0, api.ErrWeigh}, {example(), api.Weigh{}, 0, api.ErrWeigh}, {example(), weigh(0, 9, 0, 0), 0, api.ErrWeigh}, {example(), weigh(10000, 9, 0, 0), 0, api.ErrWeigh}, {example(), weigh(math.MaxInt, 9, 0, 0), 0, api.ErrWeigh},
		{example(), weigh(3, 0, 0, 0), 0, api.ErrWeigh}, {example(), weigh(3, 1201, 0, 0), 0, api.ErrWeigh}, {example(), weigh(3, 9, -1, 0), 0, api.ErrWeigh}, {example(), weigh(3, 9, 0, 201), 0, api.ErrWeigh}, {example(), weigh(3, 9, 4, 3), 0, api.ErrWeigh},
	} {
		want := api.Bale{}
		if x.e == api.OK {
			want = copied(x.b)
			want.Weighs = slices.Insert(want.Weighs, x.at, x.x)
		}
		if y, e := core.Weighed(x.b, x.x); e != x.e || !same(y, want) {
			t.Error(i, y, e)
		}
	}
}

// P3.8: some draws and weighings less; of draws it is told first.
func TestStrike(t *testing.T) {
	for i, x := range []struct {
		draws, weighs []int
		e             api.Errno
	}{
		{nil, nil, api.OK}, {ints(), ints(), api.OK}, {ints(1), nil, api.OK}, {nil, ints(2), api.OK}, {ints(1, 3), ints(1), api.OK}, {ints(1, 2, 3), ints(1, 2), api.OK},
		{ints(3, 1), nil, api.ErrDraw}, {ints(1, 1), nil, api.ErrDraw}, {ints(4), nil, api.ErrDraw}, {ints(0), nil, api.ErrDraw}, {ints(math.MinInt, 1), nil, api.ErrDraw}, {ints(1, math.MaxInt), nil, api.ErrDraw}, {ints(1, 2, 3, 4), nil, api.ErrDraw}, {ints(4), ints(9), api.ErrDraw},
		{nil, ints(2, 1), api.ErrWeigh}, {nil, ints(2, 2), api.ErrWeigh}, {ints(1), ints(3), api.ErrWeigh}, {nil, ints(0), api.ErrWeigh}, {nil, ints(-1, 1), api.ErrWeigh}, {nil, ints(1, math.MaxInt), api.ErrWeigh}, {ints(1, 2, 3), ints(1, 2, 3), api.ErrWeigh},
	} {
		want := api.Bale{}
		if x.e == api.OK {
			want = without(example(), x.draws, x.weighs)
		}
		if y, e := core.Strike(example(), x.draws, x.weighs); e != x.e || !same(y, want) {
			t.Error(i, y, e)
		}
	}
}

// roomy is a bale whose lists have capacity behind their ends, in which nothing may be written.
func roomy() api.Bale {
	b := example(draw(8, 2, 2, 7))
	b.Draws, b.Weighs = testhelp.Grown(b.Draws), testhelp.Grown(b.Weighs)
	return b
}

func whole(b api.Bale) api.Bale {
	b.Draws, b.Weighs = b.Draws[:cap(b.Draws)], b.Weighs[:cap(b.Weighs)]
	return b
}

// P1, R3: no argument is written to, also not behind its end.
func TestArgumentsStay(t *testing.T) {
	b := roomy()
	before := copied(whole(b))
	draws, weighs := append(make([]int, 0, 9), 1, 8), append(make([]int, 0, 9), 2)
	for _, c := range calls() {
		for _, n := range ints(1, 2, 3) {
			c.do(b, asks{n, n, n, n})
		}
	}
	if _, e := core.Put(b, draw(7, 1, 4, 5)); e != api.OK {
		t.Error(e)
	}
	if _, e := core.Weighed(b, weigh(1000, 9, 0, 1)); e != api.OK {
		t.Error(e)
	}
	if _, e := core.Strike(b, draws, weighs); e != api.OK {
		t.Error(e)
	}
	wrong := roomy()
	wrong.Draws[0].Grade, wrong.Weighs[0].Pounds = span(1, 2), 1
	wrong.Draws = append(wrong.Draws, draw(9, 0, 5, 5))
	kept := copied(whole(wrong))
	if l, k, e := core.Wrong(wrong); !slices.Equal(l, ints(1)) || !slices.Equal(k, ints(1)) || e != api.OK {
		t.Error(l, k, e)
	}
	if !same(whole(b), before) || !same(whole(wrong), kept) {
		t.Error(whole(b), whole(wrong))
	}
	if !slices.Equal(draws[:9], ints(1, 8, 0, 0, 0, 0, 0, 0, 0)) || !slices.Equal(weighs[:9], ints(2, 0, 0, 0, 0, 0, 0, 0, 0)) {
		t.Error(draws[:9], weighs[:9])
	}
}

// spoil writes over all memory of a bale.
func spoil(b api.Bale) {
	testhelp.Spoil(b.Draws, draw(77, 7, 7, 7))
	testhelp.Spoil(b.Weighs, weigh(77, 7, 7, 7))
}

// P1, R3: a result shares no memory with an argument, nor with another result.
func TestResultsAreNew(t *testing.T) {
	b := roomy()
	before := copied(whole(b))
	put, _ := core.Put(b, draw(7, 1, 4, 5))
	weighed, _ := core.Weighed(b, weigh(7, 9, 0, 1))
	all, _ := core.Strike(b, nil, nil)
	fewer, _ := core.Strike(b, ints(8), ints(2))
	again, _ := core.Strike(all, nil, nil)
	results := []api.Bale{put, weighed, all, fewer, again}
	if slices.ContainsFunc(results, func(x api.Bale) bool { return len(x.Draws) == 0 || len(x.Weighs) == 0 }) {
		t.Error(results)
	}
	if !testhelp.Apart(results, copied, same, spoil) || !same(whole(b), before) {
		t.Error(whole(b))
	}
}

// P1, R3: nothing is remembered, also not by a list that is told.
func TestListsAreNew(t *testing.T) {
	b := odd()
	b.Weighs = light().Weighs
	for range 2 {
		l, e := core.Decide(example())
		if !slices.Equal(l, ints(1, 2, 3)) || e != api.OK {
			t.Error(l, e)
		}
		testhelp.Spoil(l, 77)
		draws, weighs, e := core.Wrong(b)
		if !slices.Equal(draws, ints(1)) || !slices.Equal(weighs, ints(3)) || e != api.OK {
			t.Error(draws, weighs, e)
		}
		testhelp.Spoil(draws, 77)
		if !slices.Equal(weighs, ints(3)) {
			t.Error(weighs)
		}
		testhelp.Spoil(weighs, 77)
	}
}

// P1, R4: nil lists and empty ones are the same.
func TestNilAndEmpty(t *testing.T) {
	a, b := blank(2), blank(2)
	b.Draws, b.Weighs = []api.Draw{}, []api.Weigh{}
	for _, c := range calls() {
		x := asks{kind: 1}
		is, e := c.do(a, x)
		if also, f := c.do(b, x); e != f || is != also {
			t.Error(c.name, is, e, also, f)
		}
	}
	for _, x := range []api.Bale{a, b} {
		if is, e := core.Can(x); !is || e != api.OK {
			t.Error(is, e)
		}
		if y, e := core.Strike(x, []int{}, nil); !same(y, a) || e != api.OK {
			t.Error(y, e)
		}
		if y, e := core.Put(x, draw(1, 0, 1, 1)); len(y.Draws) != 1 || len(y.Weighs) != 0 || e != api.OK {
			t.Error(y, e)
		}
	}
}
