package core_test

import (
	"math"
	"slices"
	"testing"

	"middling/api"
	"middling/core"
)

// P3.2: whether there is a truth.
func TestCan(t *testing.T) {
	for i, x := range []struct {
		b    api.Bale
		want bool
	}{
		{example(), true}, {odd(), false}, {light(), false}, {blank(1), true}, {blank(5), true}, {showing(1, 9, 1, 9, 1), true},
		{example(draw(4, 1, 6, 9)), true}, {example(draw(4, 1, 7, 9)), false}, {example(draw(4, 1, 1, 2)), false}, {example(draw(4, 3, 4, 4), draw(5, 3, 3, 3)), false},
		{heavy(300, 300, weigh(1, 300, 0, 0)), true}, {heavy(300, 300, weigh(1, 301, 0, 3)), false}, {heavy(300, 300, weigh(1, 301, 0, 4)), true}, {heavy(300, 300, weigh(1, 300, 3, 9)), true}, {heavy(300, 300, weigh(1, 300, 4, 9)), false}, {heavy(300, 300, weigh(1, 299, 0, 200)), false}, {heavy(300, 300, weigh(1, 360, 0, 200)), true}, {heavy(300, 300, weigh(1, 361, 0, 200)), false},
		{heavy(1, 1, weigh(1, 1, 0, 200)), true}, {heavy(1, 1, weigh(1, 2, 0, 200)), false}, {heavy(600, 600, weigh(1, 720, 200, 200)), true}, {heavy(600, 600, weigh(1, 720, 0, 199)), false}, {heavy(1, 600, weigh(1, 721, 0, 200)), false}, {heavy(1, 600, weigh(1, 1200, 0, 200)), false}, {heavy(2, 600, weigh(1, 1, 0, 200)), false},
		{heavy(300, 400, weigh(1, 330, 0, 0), weigh(2, 331, 0, 0)), false}, {heavy(300, 400, weigh(1, 330, 0, 0), weigh(2, 331, 0, 4)), true}, {heavy(300, 400, weigh(1, 330, 0, 0), weigh(2, 331, 0, 3)), false},
	} {
		if is, e := core.Can(x.b); is != x.want || e != api.OK {
			t.Error(i, is, e)
		}
	}
}

// P3.2: grades in all truths, with the chapter's examples.
func TestLayers(t *testing.T) {
	for i, x := range []struct {
		b           api.Bale
		layers      []api.Span
		best, worst api.Span
	}{
		{example(), []api.Span{span(3, 3), span(3, 6), span(1, 9), span(3, 4)}, span(1, 3), span(3, 9)},
		{example(draw(4, 2, 5, 6)), []api.Span{span(3, 3), span(3, 6), span(5, 6), span(3, 4)}, span(3, 3), span(5, 6)},
		{example(draw(4, 2, 7, 8), draw(5, 2, 6, 7)), []api.Span{span(3, 3), span(3, 6), span(7, 7), span(3, 4)}, span(3, 3), span(7, 7)},
		{blank(1), []api.Span{span(1, 9)}, span(1, 9), span(1, 9)},
		{blank(3), []api.Span{span(1, 9), span(1, 9), span(1, 9)}, span(1, 9), span(1, 9)},
		{showing(4), []api.Span{span(4, 4)}, span(4, 4), span(4, 4)},
		{showing(4, 2, 7), []api.Span{span(4, 4), span(2, 2), span(7, 7)}, span(2, 2), span(7, 7)},
	} {
		for at, want := range x.layers {
			if s, e := core.Layer(x.b, at); s != want || e != api.OK {
				t.Error(i, at, s, e)
			}
		}
		if s, e := core.Best(x.b); s != x.best || e != api.OK {
			t.Error(i, s, e)
		}
		if s, e := core.Worst(x.b); s != x.worst || e != api.OK {
			t.Error(i, s, e)
		}
	}
}

// P3.3, P3.10: the kind of a bale of which all is known, and its cuts.
func TestKindOfGrades(t *testing.T) {
	none := api.Span{}
	for i, x := range []struct {
		grades []int
		kind   int
		cut    api.Span
	}{
		{ints(1), api.KindPlain, none}, {ints(9), api.KindPlain, none}, {ints(4, 4), api.KindPlain, none}, {ints(5, 4), api.KindPlain, none}, {ints(4, 5, 4, 5, 5), api.KindPlain, none},
		{ints(3, 5), api.KindTwo, span(1, 1)}, {ints(9, 1), api.KindTwo, span(1, 1)}, {ints(3, 4, 5), api.KindTwo, span(1, 2)}, {ints(3, 3, 5), api.KindTwo, span(2, 2)}, {ints(3, 5, 5), api.KindTwo, span(1, 1)}, {ints(5, 4, 3), api.KindTwo, span(1, 2)}, {ints(2, 3, 3, 3, 4), api.KindTwo, span(1, 4)}, {ints(1, 1, 9, 9, 9), api.KindTwo, span(2, 2)}, {ints(5, 5, 4, 6, 6), api.KindTwo, span(3, 3)}, {ints(5, 6, 6, 7), api.KindTwo, span(1, 3)}, {ints(5, 6, 7, 6), api.KindTwo, span(1, 2)},
		{ints(3, 5, 3), api.KindFalse, none}, {ints(3, 5, 4), api.KindTwo, span(1, 1)}, {ints(3, 6, 4), api.KindFalse, none}, {ints(4, 6, 3), api.KindFalse, none}, {ints(3, 4, 6, 4), api.KindFalse, none}, {ints(1, 9, 9, 9, 1), api.KindFalse, none}, {ints(1, 1, 3, 1, 1), api.KindFalse, none}, {ints(2, 3, 4, 3, 2), api.KindFalse, none}, {ints(4, 9, 5, 5), api.KindFalse, none},
		{ints(3, 3, 6, 4), api.KindMixed, none}, {ints(4, 9, 4, 5), api.KindMixed, none}, {ints(5, 9, 4, 4), api.KindMixed, none}, {ints(3, 1, 3), api.KindMixed, none}, {ints(3, 9, 2, 3), api.KindMixed, none}, {ints(6, 9, 3), api.KindMixed, none}, {ints(1, 3, 5), api.KindMixed, none}, {ints(3, 9, 5), api.KindMixed, none}, {ints(2, 3, 4, 2, 3), api.KindMixed, none}, {ints(9, 1, 9, 1, 9), api.KindMixed, none}, {ints(5, 3, 4, 5), api.KindMixed, none},
	} {
		for _, kind := range kinds() {
			want := uint8(api.KnownNo)
			if kind == x.kind {
				want = api.KnownYes
			}
			if k, e := core.Kind(showing(x.grades...), kind); k != want || e != api.OK {
				t.Error(i, kind, k, e)
			}
		}
		want := api.OK
		if x.kind != api.KindTwo {
			want = api.ErrNone
		}
		if s, e := core.Cut(showing(x.grades...)); s != x.cut || e != want {
			t.Error(i, s, e)
		}
	}
}

// P3.3, P3.4: kinds and cuts that are open, and the draws that decide, with the chapter's examples.
func TestKinds(t *testing.T) {
	const no, open, yes = api.KnownNo, api.KnownOpen, api.KnownYes
	ends := blank(3)
	ends.Draws = []api.Draw{draw(1, 0, 4, 4), draw(2, 2, 4, 4)}
	two := blank(2)
	two.Draws = []api.Draw{draw(1, 0, 4, 4)}
	far := blank(3)
	far.Draws = []api.Draw{draw(1, 0, 1, 1), draw(2, 1, 1, 9), draw(3, 2, 9, 9)}
	for i, x := range []struct {
		b        api.Bale
		kinds    [4]uint8
		cut      api.Span
		e        api.Errno
		at, left int
		l        []int
	}{
		{example(), [4]uint8{open, open, open, open}, span(1, 3), api.OK, 2, 3, ints(1, 2, 3)},
		{example(draw(4, 2, 1, 1)), [4]uint8{no, no, no, yes}, span(0, 0), api.ErrNone, 0, 1, nil},
		{example(draw(4, 2, 2, 2)), [4]uint8{open, open, no, open}, span(2, 3), api.OK, 1, 2, ints(1, 3)},
		{blank(1), [4]uint8{yes, no, no, no}, span(0, 0), api.ErrNone, 0, 1, nil},
		{blank(2), [4]uint8{open, open, no, no}, span(1, 1), api.OK, 0, 2, ints(0, 1)},
		{blank(5), [4]uint8{open, open, open, open}, span(1, 4), api.OK, 0, 4, ints(0, 1, 2, 3, 4)},
		{two, [4]uint8{open, open, no, no}, span(1, 1), api.OK, 1, 1, ints(1)},
		{ends, [4]uint8{open, no, open, open}, span(0, 0), api.ErrNone, 1, 1, ints(1)},
		{far, [4]uint8{no, open, no, open}, span(1, 2), api.OK, 1, 1, ints(1)},
	} {
		for k, want := range x.kinds {
			if is, e := core.Kind(x.b, k+1); is != want || e != api.OK {
				t.Error(i, k+1, is, e)
			}
		}
		if s, e := core.Cut(x.b); s != x.cut || e != x.e {
			t.Error(i, s, e)
		}
		if at, n, e := core.Ask(x.b); at != x.at || n != x.left || e != api.OK {
			t.Error(i, at, n, e)
		}
		if l, e := core.Decide(x.b); !slices.Equal(l, x.l) || e != api.OK {
			t.Error(i, l, e)
		}
	}
}

// P3.5: weights, with the chapter's examples.
func TestWeights(t *testing.T) {
	for i, x := range []struct {
		b        api.Bale
		dry, wet api.Span
	}{
		{example(), span(441, 452), span(62, 90)},
		{blank(1), span(1, 600), span(0, 0)},
		{heavy(300, 300, weigh(1, 301, 0, 9)), span(300, 300), span(4, 6)}, {heavy(300, 300, weigh(1, 301, 0, 5)), span(300, 300), span(4, 5)}, {heavy(300, 300, weigh(1, 301, 5, 9)), span(300, 300), span(5, 6)}, {heavy(300, 300, weigh(1, 300, 0, 200)), span(300, 300), span(0, 3)},
		{heavy(100, 600, weigh(1, 330, 100, 100)), span(300, 300), span(100, 100)}, {heavy(100, 600, weigh(1, 330, 0, 200)), span(275, 330), span(0, 200)}, {heavy(300, 302, weigh(1, 330, 90, 110)), span(300, 302), span(93, 103)},
		{heavy(1, 9, weigh(1, 1, 0, 200)), span(1, 1), span(0, 200)}, {heavy(1, 600, weigh(1, 720, 0, 200)), span(600, 600), span(200, 200)}, {heavy(1, 600, weigh(1, 600, 0, 0), weigh(2, 720, 200, 200)), span(600, 600), span(0, 0)}, {heavy(1, 600, weigh(1, 600, 0, 50), weigh(2, 600, 40, 60)), span(572, 577), span(40, 50)},
	} {
		if s, e := core.Dry(x.b); s != x.dry || e != api.OK {
			t.Error(i, s, e)
		}
		if len(x.b.Weighs) == 0 {
			continue
		}
		if s, e := core.Wet(x.b, 1); s != x.wet || e != api.OK {
			t.Error(i, s, e)
		}
	}
	if s, e := core.Wet(example(), 2); s != span(40, 68) || e != api.OK {
		t.Error(s, e)
	}
}

// P3.5: whether a bale was damper than so much; of Known no number is asked that may be damp.
func TestKnown(t *testing.T) {
	for i, x := range []struct {
		number, damp int
		want         uint8
	}{
		{1, 61, api.KnownYes}, {1, 62, api.KnownOpen}, {1, 89, api.KnownOpen}, {1, 90, api.KnownNo}, {1, 0, api.KnownYes}, {1, 200, api.KnownNo}, {2, 39, api.KnownYes}, {2, 40, api.KnownOpen}, {2, 67, api.KnownOpen}, {2, 68, api.KnownNo},
		{1, -1, api.KnownYes}, {2, math.MinInt, api.KnownYes}, {1, 201, api.KnownNo}, {2, math.MaxInt, api.KnownNo},
	} {
		if k, e := core.Known(example(), x.number, x.damp); k != x.want || e != api.OK {
			t.Error(i, k, e)
		}
	}
}

// P3.5: pounds that are paid.
func TestPays(t *testing.T) {
	for i, x := range []struct {
		b    api.Bale
		damp int
		want api.Span
	}{
		{example(), 85, span(478, 490)}, {example(), 0, span(441, 452)}, {example(), 61, span(467, 479)}, {example(), 200, span(529, 542)},
		{blank(1), 0, span(1, 600)}, {blank(1), 200, span(1, 720)}, {heavy(5, 5), 199, span(5, 5)}, {heavy(5, 5), 200, span(6, 6)}, {heavy(300, 300), 3, span(300, 300)}, {heavy(300, 300), 4, span(301, 301)},
	} {
		if s, e := core.Pays(x.b, x.damp); s != x.want || e != api.OK {
			t.Error(i, s, e)
		}
	}
}

// P3.6, P3.15: what must be put aside, by its kind and how damp it was.
func TestAside(t *testing.T) {
	either := heavy(100, 110, weigh(1, 110, 0, 200), weigh(2, 100, 0, 200))
	plain, mixed, open := showing(3, 4, 3), showing(1, 3, 5), example(draw(4, 1, 3, 3))
	plain.Weighs, mixed.Weighs = []api.Weigh{weigh(1, 660, 100, 110)}, []api.Weigh{weigh(1, 660, 100, 110)}
	for i, x := range []struct {
		b    api.Bale
		damp int
		want uint8
	}{
		{example(), 61, api.KnownYes}, {example(), 62, api.KnownOpen}, {example(), 90, api.KnownOpen}, {example(), 200, api.KnownOpen}, {open, 200, api.KnownOpen},
		{showing(3, 5, 3), 0, api.KnownYes}, {showing(3, 5), 200, api.KnownYes}, {showing(1, 3, 5), 200, api.KnownYes}, {showing(3, 4, 3), 0, api.KnownNo}, {blank(1), 0, api.KnownNo}, {blank(2), 0, api.KnownOpen},
		{plain, 99, api.KnownYes}, {plain, 100, api.KnownOpen}, {plain, 109, api.KnownOpen}, {plain, 110, api.KnownNo}, {mixed, 110, api.KnownYes},
		{either, 99, api.KnownYes}, {either, 100, api.KnownOpen}, {either, 108, api.KnownOpen}, {either, 109, api.KnownNo},
	} {
		if k, e := core.Aside(x.b, x.damp); k != x.want || e != api.OK {
			t.Error(i, k, e)
		}
	}
}

// P3.7, N10: draws and weighings that must be false.
func TestWrong(t *testing.T) {
	both := odd()
	both.Weighs = light().Weighs
	for i, x := range []struct {
		b             api.Bale
		draws, weighs []int
		e             api.Errno
	}{
		{example(), nil, nil, api.OK}, {blank(5), nil, nil, api.OK}, {odd(), ints(1), nil, api.OK}, {light(), nil, ints(3), api.OK}, {both, ints(1), ints(3), api.OK},
		{example(draw(4, 0, 5, 6), draw(5, 0, 5, 5)), ints(1), nil, api.OK}, {example(draw(4, 0, 5, 6), draw(5, 0, 3, 3)), ints(4), nil, api.OK}, {example(draw(4, 0, 5, 6), draw(5, 1, 7, 7)), ints(1, 3), nil, api.OK}, {example(draw(4, 0, 4, 4), draw(5, 0, 5, 5), draw(6, 0, 6, 6)), ints(1, 4, 5), nil, api.OK},
		{example(draw(4, 0, 4, 4), draw(5, 0, 5, 5), draw(6, 0, 6, 6), draw(7, 0, 7, 7)), nil, nil, api.ErrMany},
		{heavy(300, 300, weigh(2, 300, 0, 0), weigh(3, 301, 0, 3), weigh(5, 302, 7, 8)), nil, ints(3), api.OK}, {heavy(300, 310, weigh(2, 300, 0, 0), weigh(3, 301, 0, 0), weigh(5, 302, 0, 0), weigh(6, 302, 0, 1)), nil, ints(2, 3), api.OK}, {heavy(300, 310, weigh(2, 301, 0, 0), weigh(4, 302, 0, 0)), nil, ints(2), api.OK}, {heavy(300, 310, weigh(1, 299, 0, 0), weigh(2, 298, 0, 0), weigh(3, 297, 0, 0), weigh(4, 300, 0, 0)), nil, ints(1, 2, 3), api.OK},
		{heavy(300, 310, weigh(1, 299, 0, 0), weigh(2, 298, 0, 0), weigh(3, 297, 0, 0), weigh(4, 296, 0, 0)), nil, nil, api.ErrMany},
	} {
		l, k, e := core.Wrong(x.b)
		if !slices.Equal(l, x.draws) || !slices.Equal(k, x.weighs) || e != x.e {
			t.Error(i, l, k, e)
		}
	}
	// Three of each sort are not too many; if one sort has more, the other one is not told either.
	most := example(draw(4, 0, 4, 4), draw(5, 0, 5, 5), draw(6, 0, 6, 6))
	most.Dry, most.Weighs = span(300, 310), []api.Weigh{weigh(1, 299, 0, 0), weigh(2, 298, 0, 0), weigh(3, 297, 0, 0)}
	if l, k, e := core.Wrong(most); !slices.Equal(l, ints(1, 4, 5)) || !slices.Equal(k, ints(1, 2, 3)) || e != api.OK {
		t.Error(l, k, e)
	}
	most.Weighs = append(most.Weighs, weigh(4, 296, 0, 0))
	if l, k, e := core.Wrong(most); len(l) != 0 || len(k) != 0 || e != api.ErrMany {
		t.Error(l, k, e)
	}
}
