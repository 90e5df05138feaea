package box_test

import (
	"math"
	"slices"
	"testing"

	"middling/api"
	"middling/box"
)

// P1.2: whether there is a truth.
func TestCan(t *testing.T) {
	stiff := example()
	stiff.Step = 0
	alone := stiff
	alone.Boxes = []api.Box{{Id: 1, Made: 3}}
	back := api.Room{Months: 2, Step: 9, Ages: []api.Span{span(5, 9), span(0, 4)}, Boxes: []api.Box{{Id: 1}}}
	level := back
	level.Ages = []api.Span{span(5, 9), span(0, 5)}
	empty := back
	empty.Boxes = nil
	for i, x := range []struct {
		r    api.Room
		want bool
	}{
		{example(), true}, {example(first()), true}, {example(second()), true}, {example(first(), second()), false},
		{stiff, false}, {alone, true}, {back, false}, {level, true}, {empty, true},
		{alike(match(1, 0, 3, 5, 9, 9)), true}, {alike(match(1, 0, 3, 5, 10, 60)), false}, {alike(match(1, 0, 3, 5, -60, -10)), false},
		{alike(match(1, 0, 3, 5, 0, 60), match(2, 0, 5, 3, 0, 60)), true}, {alike(match(1, 0, 3, 5, 0, 60), match(2, 0, 5, 3, 1, 60)), false},
		{alike(match(1, 1, 3, 5, 1, 9), match(2, 1, 5, 8, 1, 9), match(3, 1, 8, 3, -2, 9)), true}, {alike(match(1, 1, 3, 5, 1, 9), match(2, 1, 5, 8, 1, 9), match(3, 1, 8, 3, -1, 9)), false},
		{alike(match(1, 0, 3, 5, 4, 4), match(2, 2, 3, 5, 0, 0)), true}, {alike(match(1, 0, 3, 5, 5, 5), match(2, 2, 3, 5, 0, 0)), false},
	} {
		if is, e := box.Can(x.r); is != x.want || e != api.OK {
			t.Error(i, is, e)
		}
	}
}

// P1.2: spans, with the chapter's examples.
func TestYellow(t *testing.T) {
	for i, x := range []struct {
		r          api.Room
		box, month int
		want       api.Span
	}{
		{example(first()), 1, 2, span(4, 8)}, {example(first()), 1, 3, span(4, 12)}, {example(first()), 2, 2, span(1, 4)}, {example(first()), 2, 1, span(0, 0)},
		{example(), 1, 2, span(2, 8)}, {example(), 2, 3, span(2, 8)}, {example(second()), 1, 3, span(3, 5)}, {example(second()), 1, 2, span(2, 5)}, {example(second()), 2, 3, span(6, 8)}, {example(second()), 2, 2, span(1, 4)},
		{alike(match(1, 0, 3, 5, 9, 9)), 5, 2, span(1, 4)}, {alike(match(1, 0, 3, 5, 9, 9)), 3, 1, span(9, 10)}, {alike(match(1, 2, 3, 8, 10, 60)), 3, 0, span(6, 9)}, {alike(match(1, 2, 3, 8, 10, 60)), 8, 1, span(0, 1)},
	} {
		if s, e := box.Yellow(x.r, x.box, x.month); s != x.want || e != api.OK {
			t.Error(i, s, e)
		}
	}
}

func TestDiffer(t *testing.T) {
	for i, x := range []struct {
		r           api.Room
		a, b, month int
		want        api.Span
	}{
		{example(first()), 1, 2, 2, span(3, 5)}, {example(first()), 1, 2, 3, span(-2, 10)}, {example(first()), 2, 1, 2, span(-5, -3)}, {example(first()), 1, 2, 1, span(1, 4)},
		{example(), 1, 2, 3, span(-5, 10)}, {alike(), 3, 5, 0, span(-9, 9)}, {alike(match(1, 1, 3, 5, 2, 3), match(2, 1, 5, 8, 1, 1)), 3, 8, 1, span(3, 4)}, {alike(match(1, 0, 3, 5, 9, 9)), 3, 5, 2, span(5, 10)},
	} {
		if s, e := box.Differ(x.r, x.a, x.b, x.month); s != x.want || e != api.OK {
			t.Error(i, s, e)
		}
	}
	if s, e := box.Differ(example(first()), 1, 1, 2); s != (api.Span{}) || e != api.ErrArg {
		t.Error(s, e)
	}
}

// P1.3: what is known of a box and a number of points.
func TestKnown(t *testing.T) {
	for i, x := range []struct {
		box, month, points int
		want               uint8
	}{
		{1, 3, 12, api.KnownOpen}, {1, 3, 4, api.KnownYes}, {1, 3, 5, api.KnownOpen}, {1, 3, 13, api.KnownNo}, {2, 2, 5, api.KnownNo}, {2, 2, 4, api.KnownOpen}, {2, 2, 1, api.KnownYes},
		{1, 0, 0, api.KnownYes}, {1, 0, 1, api.KnownNo}, {1, 0, -1, api.KnownYes}, {1, 3, math.MaxInt, api.KnownNo}, {1, 3, math.MinInt, api.KnownYes},
	} {
		if k, e := box.Known(example(first()), x.box, x.month, x.points); k != x.want || e != api.OK {
			t.Error(i, k, e)
		}
	}
}

// P1.3: what is known of two boxes.
func TestOrder(t *testing.T) {
	for i, x := range []struct {
		r           api.Room
		a, b, month int
		want        uint8
	}{
		{example(first()), 1, 2, 2, api.KnownYes}, {example(first()), 1, 2, 3, api.KnownOpen}, {example(first()), 2, 1, 2, api.KnownNo}, {example(first()), 2, 1, 3, api.KnownOpen},
		{alike(match(1, 1, 3, 5, 0, 0)), 3, 5, 1, api.KnownYes}, {alike(match(1, 1, 3, 5, 0, 0)), 5, 3, 1, api.KnownYes}, {alike(match(1, 1, 3, 5, -4, -1)), 3, 5, 1, api.KnownNo}, {alike(match(1, 1, 3, 5, -4, 0)), 3, 5, 1, api.KnownOpen},
	} {
		if k, e := box.Order(x.r, x.a, x.b, x.month); k != x.want || e != api.OK {
			t.Error(i, k, e)
		}
	}
	if k, e := box.Order(example(first()), 2, 2, 2); k != 0 || e != api.ErrArg {
		t.Error(k, e)
	}
}

// P1.4: since when a box may, or must, be so yellow.
func TestSince(t *testing.T) {
	for i, x := range []struct {
		box, points     int
		perhaps, surely int
		e, f            api.Errno
	}{
		{1, 8, 2, 0, api.OK, api.ErrNone}, {1, 4, 1, 2, api.OK, api.OK}, {1, 5, 2, 0, api.OK, api.ErrNone}, {1, 1, 1, 1, api.OK, api.OK}, {1, 12, 3, 0, api.OK, api.ErrNone}, {1, 13, 0, 0, api.ErrNone, api.ErrNone},
		{1, 0, 0, 0, api.OK, api.OK}, {2, 0, 1, 1, api.OK, api.OK}, {2, math.MinInt, 1, 1, api.OK, api.OK}, {2, math.MaxInt, 0, 0, api.ErrNone, api.ErrNone}, {7, 0, 0, 0, api.ErrNone, api.ErrNone},
	} {
		a, e := box.Perhaps(example(first()), x.box, x.points)
		b, f := box.Surely(example(first()), x.box, x.points)
		if a != x.perhaps || e != x.e || b != x.surely || f != x.f {
			t.Error(i, a, e, b, f)
		}
	}
}

// P1.5: the first month in which a box may be too yellow.
func TestDue(t *testing.T) {
	none := example()
	none.Boxes = nil
	for i, x := range []struct {
		r             api.Room
		points, month int
		boxes         []int
		e             api.Errno
	}{
		{example(first()), 7, 2, ints(1), api.OK}, {example(first()), 8, 3, ints(1), api.OK}, {example(first()), 11, 3, ints(1), api.OK}, {example(first()), 12, 0, nil, api.ErrNone},
		{example(first()), 0, 1, ints(1), api.OK}, {example(first()), -1, 0, ints(1), api.OK}, {example(first()), math.MaxInt, 0, nil, api.ErrNone}, {example(first()), math.MinInt, 0, ints(1), api.OK},
		{alike(), 8, 0, ints(3, 5), api.OK}, {alike(), 9, 1, ints(3, 5), api.OK}, {alike(), 10, 2, ints(3, 5), api.OK}, {alike(), 11, 0, nil, api.ErrNone}, {none, -1, 0, nil, api.ErrNone},
	} {
		m, l, e := box.Due(x.r, x.points)
		if m != x.month || !slices.Equal(l, x.boxes) || e != x.e {
			t.Error(i, m, l, e)
		}
	}
}

// P1.5: the boxes that may be the least yellow.
func TestFresh(t *testing.T) {
	late := example()
	late.Boxes = []api.Box{{Id: 1, Made: 2}}
	for i, x := range []struct {
		r     api.Room
		month int
		want  []int
	}{
		{example(first()), 2, ints(2)}, {example(first()), 3, ints(1, 2)}, {example(first()), 0, ints(1)}, {late, 1, nil}, {late, 2, ints(1)},
		{alike(), 0, ints(3, 5)}, {alike(), 1, ints(3, 5, 8)}, {alike(match(1, 1, 3, 5, 1, 9), match(2, 1, 5, 8, 0, 3)), 1, ints(5, 8)}, {alike(match(1, 1, 3, 5, 1, 9), match(2, 1, 8, 3, 0, 3)), 1, ints(5)},
	} {
		if l, e := box.Fresh(x.r, x.month); !slices.Equal(l, x.want) || e != api.OK {
			t.Error(i, l, e)
		}
	}
}

// P1.5: the two boxes of whose difference the least is known.
func TestAsk(t *testing.T) {
	for i, x := range []struct {
		r                 api.Room
		month, a, b, wide int
		e                 api.Errno
	}{
		{example(first()), 3, 1, 2, 12, api.OK}, {example(first()), 2, 1, 2, 2, api.OK}, {example(first()), 0, 0, 0, 0, api.ErrNone}, {alike(), 0, 3, 5, 18, api.OK},
		{alike(), 1, 3, 5, 20, api.OK}, {alike(match(1, 1, 3, 5, 1, 1)), 1, 3, 8, 18, api.OK}, {alike(match(1, 1, 3, 5, 0, 0), match(2, 1, 3, 8, 0, 0)), 1, 3, 5, 0, api.OK}, {alike(match(1, 1, 3, 5, 0, 0), match(2, 1, 3, 8, 0, 2)), 1, 3, 8, 2, api.OK}, {alike(match(1, 1, 3, 5, 0, 2), match(2, 1, 3, 8, 0, 2)), 1, 5, 8, 4, api.OK},
	} {
		a, b, n, e := box.Ask(x.r, x.month)
		if a != x.a || b != x.b || n != x.wide || e != x.e {
			t.Error(i, a, b, n, e)
		}
	}
}

// P1.6: matches that prove a span, and those on which it rests.
func TestWhy(t *testing.T) {
	for i, x := range []struct {
		r          api.Room
		box, month int
		why, rests []int
	}{
		{example(first()), 1, 2, ints(1), ints(1)}, {example(first()), 2, 2, nil, nil}, {example(), 1, 2, nil, nil},
		{example(first(), match(4, 2, 1, 2, 0, 9)), 1, 2, ints(1), ints(1)}, {example(first(), match(4, 2, 1, 2, 3, 6)), 1, 2, ints(1), nil},
		{example(match(1, 2, 1, 2, 0, 9), match(4, 2, 1, 2, 3, 6)), 1, 2, ints(4), ints(4)},
		{alike(match(2, 0, 3, 5, 4, 4), match(3, 1, 5, 8, 3, 3)), 3, 1, ints(2, 3), ints(2, 3)},
		{alike(match(2, 1, 3, 5, 4, 60), match(3, 1, 5, 8, 3, 60), match(9, 1, 3, 8, 7, 60)), 3, 1, ints(9), nil},
		{alike(match(2, 1, 3, 5, 4, 60), match(3, 1, 8, 5, 4, 60), match(7, 1, 8, 3, 0, 0)), 3, 1, ints(2, 7), ints(7)},
	} {
		l, e := box.Why(x.r, x.box, x.month)
		k, f := box.Rests(x.r, x.box, x.month)
		if !slices.Equal(l, x.why) || e != api.OK || !slices.Equal(k, x.rests) || f != api.OK {
			t.Error(i, l, e, k, f)
		}
	}
}

// P1.6: matches that must be false.
func TestWrong(t *testing.T) {
	exact := func(n int) []api.Match {
		var l []api.Match
		for i := range n {
			l = append(l, match(i+2, 2, 1, 2, i+1, i+1))
		}
		return l
	}
	stiff := example(first())
	stiff.Step = 0
	for i, x := range []struct {
		r    api.Room
		want []int
		e    api.Errno
	}{
		{example(), nil, api.OK}, {example(first()), nil, api.OK}, {example(first(), second()), ints(1), api.OK}, {example(first(), second(), match(3, 2, 1, 2, 3, 3)), ints(2), api.OK},
		{example(exact(2)...), ints(2), api.OK}, {example(exact(3)...), ints(2, 3), api.OK}, {example(exact(4)...), ints(2, 3, 4), api.OK}, {example(exact(5)...), nil, api.ErrMany},
		{example(match(1, 2, 1, 2, 30, 60), match(2, 2, 2, 1, 30, 60), match(3, 2, 2, 1, 31, 60)), ints(1, 2, 3), api.OK},
		{stiff, nil, api.ErrMany},
	} {
		if l, e := box.Wrong(x.r); !slices.Equal(l, x.want) || e != x.e {
			t.Error(i, l, e)
		}
	}
}
