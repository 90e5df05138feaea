package river_test

import (
	"math"
	"slices"
	"testing"

	"middling/api"
	"middling/river"
)

// alike is a flood in which each bale is worth 10.
func alike(f api.Flood) api.Flood {
	for at := range f.Worths {
		f.Worths[at].Pence = 10
	}
	return f
}

// late is a flood in which the river reaches no level sooner than in some minute.
func late(l ...api.Stack) api.Flood { return rows(slices.Repeat(ints(500), 7), l...) }

// P10.2, P10.8: when the river reaches levels, with the chapter's examples.
func TestReaches(t *testing.T) {
	gap := func(n int, f api.Flood) api.Flood {
		f.Gap = n
		return f
	}
	for i, x := range []struct {
		f    api.Flood
		want [7]api.Span
	}{
		{example(), [7]api.Span{span(20, 30), span(30, 45), span(40, 60), span(50, 80), span(60, 100), span(70, 120), span(80, 140)}},
		{known(), [7]api.Span{span(20, 22), span(35, 45), span(40, 60), span(50, 80), span(60, 100), span(70, 120), span(80, 140)}},
		// A level is reached later behind a late one, sooner before a soon one, from both ends to the other ones.
		{gap(20, example()), [7]api.Span{span(20, 20), span(40, 40), span(60, 60), span(80, 80), span(100, 100), span(120, 120), span(140, 140)}},
		{gap(15, example()), [7]api.Span{span(20, 30), span(35, 45), span(50, 60), span(65, 80), span(80, 100), span(95, 120), span(110, 140)}},
		{gap(0, example(report(1, 1, 25, false), report(2, 7, 81, true))), [7]api.Span{span(26, 30), span(30, 45), span(40, 60), span(50, 80), span(60, 81), span(70, 81), span(80, 81)}},
		{gap(10, example(report(1, 7, 82, true))), [7]api.Span{span(20, 22), span(30, 32), span(40, 42), span(50, 52), span(60, 62), span(70, 72), span(80, 82)}},
		{gap(10, example(report(1, 1, 27, false))), [7]api.Span{span(28, 30), span(38, 45), span(48, 60), span(58, 80), span(68, 100), span(78, 120), span(88, 140)}},
		{example(report(1, 4, 79, false)), [7]api.Span{span(20, 30), span(30, 45), span(40, 60), span(80, 80), span(85, 100), span(90, 120), span(95, 140)}},
		{example(report(1, 4, 50, true)), [7]api.Span{span(20, 30), span(30, 40), span(40, 45), span(50, 50), span(60, 100), span(70, 120), span(80, 140)}},
		// Reports of what is so anyway tell nothing; of several ones the strictest counts, wherever it stands.
		{example(report(1, 4, 49, false), report(2, 4, 80, true), report(3, 1, 0, false), report(4, 7, 600, true)), [7]api.Span{span(20, 30), span(30, 45), span(40, 60), span(50, 80), span(60, 100), span(70, 120), span(80, 140)}},
		{example(report(1, 5, 88, true), report(2, 5, 66, true), report(3, 5, 77, true), report(4, 5, 62, false), report(5, 5, 64, false), report(6, 5, 63, false)), [7]api.Span{span(20, 30), span(30, 45), span(40, 56), span(50, 61), span(65, 66), span(70, 120), span(80, 140)}},
		// The first and the last minute of all; all levels in one minute.
		{rows(ints(0, 0, 0, 600, 600, 600, 600), pile(1, 1)), [7]api.Span{{}, {}, {}, span(600, 600), span(600, 600), span(600, 600), span(600, 600)}},
		{changed(func(f *api.Flood) { f.Levels, f.Gap = slices.Repeat([]api.Span{span(0, 600)}, 7), 60 }), [7]api.Span{span(0, 240), span(60, 300), span(120, 360), span(180, 420), span(240, 480), span(300, 540), span(360, 600)}},
		// A level that could be reached sooner than the one before it.
		{gap(1, rows(ints(9, 10, 11, 12, 13, 14, 15), pile(1, 1))), [7]api.Span{span(9, 9), span(10, 10), span(11, 11), span(12, 12), span(13, 13), span(14, 14), span(15, 15)}},
		{changed(func(f *api.Flood) { f.Levels[3], f.Gap = span(0, 80), 0 }), [7]api.Span{span(20, 30), span(30, 45), span(40, 60), span(40, 80), span(60, 100), span(70, 120), span(80, 140)}},
	} {
		if is, e := river.True(x.f); !is || e != api.OK {
			t.Error(i, is, e)
		}
		for at, want := range x.want {
			if s, e := river.Reaches(x.f, at+1); s != want || e != api.OK {
				t.Error(i, at+1, s, e)
			}
		}
	}
}

// P10.2: whether there is a truth, with the chapter's example.
func TestTrue(t *testing.T) {
	long := never()
	long.Reports = nil
	for i, x := range []struct {
		f    api.Flood
		want bool
	}{
		{example(), true}, {known(), true}, {full(), true}, {odd(), false}, {many(), false}, {never(), false}, {long, false},
		{example(report(1, 1, 19, true)), false}, {example(report(1, 1, 20, true)), true}, {example(report(1, 1, 29, false)), true}, {example(report(1, 1, 30, false)), false}, {example(report(1, 7, 600, false)), false}, {example(report(1, 7, 0, true)), false},
		{example(report(1, 3, 50, true), report(2, 3, 50, false)), false}, {example(report(1, 3, 50, true), report(2, 3, 49, false)), true},
		// One level's report may be false by that of another one; levels lie Gap apart.
		{example(report(1, 3, 44, true), report(2, 2, 39, false)), false}, {example(report(1, 3, 44, true), report(2, 2, 38, false)), true}, {example(report(1, 1, 24, false), report(2, 7, 80, true)), true}, {changed(func(f *api.Flood) { f.Gap = 11 }), true}, {changed(func(f *api.Flood) { f.Levels[6], f.Gap = span(80, 86), 11 }), true}, {changed(func(f *api.Flood) { f.Levels[6], f.Gap = span(80, 85), 11 }), false}, {changed(func(f *api.Flood) { f.Gap = 20 }), true}, {changed(func(f *api.Flood) { f.Gap = 21 }), false},
		{rows(ints(600, 600, 600, 600, 600, 600, 600), pile(1, 1)), true}, {rows(ints(5, 4, 6, 7, 8, 9, 10), pile(1, 1)), false},
	} {
		if is, e := river.True(x.f); is != x.want || e != api.OK {
			t.Error(i, is, e)
		}
	}
}

// P10.2: the level of a bale, with the chapter's examples.
func TestLevel(t *testing.T) {
	for i, x := range []struct {
		f          api.Flood
		bale, want int
		e          api.Errno
	}{
		{example(), 11, 1, api.OK}, {example(), 12, 2, api.OK}, {example(), 13, 3, api.OK}, {example(), 21, 1, api.OK}, {example(), 31, 2, api.OK}, {example(), 41, 2, api.OK}, {odd(), 13, 3, api.OK}, {never(), 13, 3, api.OK}, {full(), 1, 1, api.OK}, {full(), 3, 3, api.OK}, {full(), 13, 5, api.OK}, {full(), 15, 7, api.OK}, {full(), 8, 5, api.OK}, {full(), 6, 2, api.OK},
		{example(), 22, 0, api.ErrNone}, {example(), 0, 0, api.ErrNone}, {example(), -11, 0, api.ErrNone}, {example(), 99, 0, api.ErrNone}, {example(), math.MinInt, 0, api.ErrNone}, {example(), math.MaxInt, 0, api.ErrNone}, {odd(), 22, 0, api.ErrNone}, {full(), 16, 0, api.ErrNone}, {late(pile(1, 1)), 1, 0, api.ErrNone}, {broken(), 11, 0, api.ErrFlood},
	} {
		if n, e := river.Level(x.f, x.bale); n != x.want || e != x.e {
			t.Error(i, n, e)
		}
	}
}

// P10.2: the loads by a minute, with the chapter's example.
func TestLoads(t *testing.T) {
	l := func(pairs ...int) []api.Load {
		var l []api.Load
		for i := 0; i < len(pairs); i += 2 {
			l = append(l, api.Load{Gang: pairs[i], Minute: pairs[i+1]})
		}
		return l
	}
	for i, x := range []struct {
		f      api.Flood
		minute int
		want   []api.Load
	}{
		{example(), 29, l(1, 10, 2, 17, 1, 20, 2, 29)}, {example(), 28, l(1, 10, 2, 17, 1, 20)}, {example(), 10, l(1, 10)}, {example(), 9, nil}, {example(), 0, nil},
		// No more than there are bales, also without a truth.
		{example(), 600, l(1, 10, 2, 17, 1, 20, 2, 29, 1, 30, 1, 40)}, {odd(), 40, l(1, 10, 2, 17, 1, 20, 2, 29, 1, 30, 1, 40)}, {never(), 39, l(1, 10, 2, 17, 1, 20, 2, 29, 1, 30)},
		{by(), 600, nil}, {late(pile(1, 1)), 600, nil}, {late(pile(1, 1), pile(2, 1, 5)), 600, l(1, 1)}, {late(pile(1, 1), pile(2, 1, 5)), 0, nil},
		// In one minute in the order of the gangs' Ids.
		{by(gang(3, 0, 6), gang(4, 2, 4), gang(9, 0, 3)), 12, l(9, 3, 3, 6, 4, 6, 9, 6, 9, 9, 4, 10)}, {by(gang(3, 0, 6), gang(4, 0, 4), gang(9, 0, 3)), 12, l(9, 3, 4, 4, 3, 6, 9, 6, 4, 8, 9, 9)}, {by(gang(1, 4, 2), gang(2, 4, 2), gang(3, 4, 2)), 8, l(1, 6, 2, 6, 3, 6, 1, 8, 2, 8, 3, 8)},
		// The first and the last minutes.
		{by(gang(1, 0, 1)), 1, l(1, 1)}, {by(gang(1, 600, 60)), 600, nil}, {by(gang(1, 599, 1)), 600, l(1, 600)}, {by(gang(1, 599, 1)), 599, nil}, {by(gang(1, 540, 60), gang(2, 598, 1)), 600, l(2, 599, 1, 600, 2, 600)},
		{full(), 12, l(1, 3, 7, 5, 1, 6, 9999, 7, 1, 9, 7, 9, 1, 12, 9999, 12)},
	} {
		if l, e := river.Loads(x.f, x.minute); !slices.Equal(l, x.want) || e != api.OK {
			t.Error(i, l, e)
		}
	}
}

// P10.3: whether bales can be saved, with the chapter's examples.
func TestCan(t *testing.T) {
	no, open, yes := uint8(api.KnownNo), uint8(api.KnownOpen), uint8(api.KnownYes)
	for i, x := range []struct {
		f    api.Flood
		want [6]uint8 // of 11, 12, 13, 21, 31 and 41.
	}{
		{example(), [6]uint8{yes, yes, yes, yes, yes, yes}}, {by(), [6]uint8{no, no, no, no, no, no}},
		{by(gang(1, 0, 10)), [6]uint8{open, yes, yes, open, yes, yes}},
		// In the minute in which the river comes it is too late, at worst and at best.
		{by(gang(1, 0, 15)), [6]uint8{no, yes, yes, no, open, yes}}, {by(gang(1, 1, 14)), [6]uint8{open, yes, yes, open, yes, yes}}, {by(gang(1, 0, 14)), [6]uint8{open, yes, yes, open, yes, yes}}, {by(gang(1, 29, 1)), [6]uint8{no, open, yes, no, open, open}}, {by(gang(1, 28, 1)), [6]uint8{no, yes, yes, no, open, yes}}, {by(gang(1, 44, 1)), [6]uint8{no, no, open, no, no, no}}, {by(gang(1, 58, 1)), [6]uint8{no, no, open, no, no, no}}, {by(gang(1, 59, 1)), [6]uint8{no, no, no, no, no, no}}, {by(gang(1, 600, 1)), [6]uint8{no, no, no, no, no, no}},
		// The gang that comes last may be the one that helps.
		{by(gang(1, 0, 10), gang(2, 18, 1)), [6]uint8{yes, yes, yes, yes, yes, yes}}, {by(gang(1, 0, 10), gang(2, 19, 1)), [6]uint8{open, yes, yes, open, yes, yes}},
		// Reports tell more.
		{changed(func(f *api.Flood) {
			f.Gangs, f.Reports = []api.Gang{gang(1, 0, 10)}, []api.Report{report(1, 1, 20, false)}
		}), [6]uint8{yes, yes, yes, yes, yes, yes}}, {changed(func(f *api.Flood) {
			f.Gangs, f.Reports = []api.Gang{gang(1, 0, 10)}, []api.Report{report(1, 1, 20, true)}
		}), [6]uint8{no, yes, yes, no, yes, yes}},
	} {
		for at, bale := range ints(11, 12, 13, 21, 31, 41) {
			if k, e := river.Can(x.f, bale); k != x.want[at] || e != api.OK {
				t.Error(i, bale, k, e)
			}
		}
	}
	if k, e := river.Can(late(pile(1, 1, 1, 2, 3)), 1); k != yes || e != api.OK {
		t.Error(k, e)
	}
}

// P10.4, P10.5: the order by which the least is lost, and whose loss it is, with the chapter's examples.
func TestOrder(t *testing.T) {
	soon := func(n int, l ...api.Stack) api.Flood { return rows(slices.Repeat(ints(n), 7), l...) }
	for i, x := range []struct {
		f     api.Flood
		order []int
		lost  int
		loses []api.Loss
	}{
		{example(), ints(12, 11, 13, 31), 600, []api.Loss{loss(2, 600)}}, {by(), nil, 1950, []api.Loss{loss(1, 1250), loss(2, 700)}}, {by(gang(1, 0, 1)), ints(12, 11, 13, 31, 41, 21), 0, nil}, {by(gang(1, 0, 10)), ints(12, 41, 13), 1350, []api.Loss{loss(1, 950), loss(2, 400)}}, {by(gang(1, 600, 60)), nil, 1950, []api.Loss{loss(1, 1250), loss(2, 700)}},
		// The dearest ones, in the order of their Ids; in the minute in which the river comes it is too late.
		{soon(3, pile(1, 1, 9), pile(2, 1, 5), pile(3, 1, 7)), ints(7, 9), 50, []api.Loss{loss(2, 50)}}, {soon(2, pile(1, 1, 9), pile(2, 1, 5), pile(3, 1, 7)), ints(9), 120, []api.Loss{loss(2, 120)}}, {soon(1, pile(1, 1, 9)), nil, 90, []api.Loss{loss(2, 90)}}, {soon(0, pile(1, 1, 8)), nil, 80, []api.Loss{loss(1, 80)}}, {soon(4, pile(1, 1, 9), pile(2, 1, 5), pile(3, 1, 7)), ints(5, 7, 9), 0, nil},
		// One that is worth little goes first if what is below it is worth more.
		{soon(3, pile(1, 1, 9, 1), pile(2, 1, 4), pile(3, 1, 5)), ints(1, 9), 90, []api.Loss{loss(1, 40), loss(2, 50)}}, {soon(3, pile(1, 1, 9, 1), pile(2, 1, 7), pile(3, 1, 4)), ints(4, 7), 100, []api.Loss{loss(2, 100)}}, {soon(4, pile(1, 1, 19, 2, 1), pile(2, 1, 4), pile(3, 1, 5), pile(4, 1, 6)), ints(1, 2, 19), 150, []api.Loss{loss(1, 100), loss(2, 50)}},
		// Bales of one worth: of several orders that save as much the one with the lesser Id where they differ.
		{alike(soon(3, pile(1, 1, 9), pile(2, 1, 5), pile(3, 1, 7))), ints(5, 7), 10, []api.Loss{loss(2, 10)}}, {alike(soon(3, pile(1, 1, 5, 9), pile(2, 1, 7))), ints(7, 9), 10, []api.Loss{loss(2, 10)}}, {alike(soon(3, pile(1, 1, 2, 9), pile(2, 1, 10, 8))), ints(8, 9), 20, []api.Loss{loss(1, 20)}}, {alike(soon(3, pile(1, 1, 2, 9), pile(2, 1, 8, 10))), ints(9, 2), 20, []api.Loss{loss(1, 20)}},
		// Those that the river reaches first go first, also if their Ids are greater, but no one that would be lost.
		{rows(ints(2, 9, 9, 9, 9, 9, 9), pile(1, 1, 4), pile(2, 2, 1)), ints(4, 1), 0, nil}, {rows(ints(1, 9, 9, 9, 9, 9, 9), pile(1, 1, 4), pile(2, 2, 1)), ints(1), 40, []api.Loss{loss(1, 40)}}, {rows(ints(2, 3, 4, 5, 6, 7, 8), pile(1, 1, 3, 2, 1)), ints(1, 2), 30, []api.Loss{loss(2, 30)}}, {rows(ints(4, 4, 4, 5, 6, 7, 8), pile(1, 1, 3, 2, 1)), ints(1, 2, 3), 0, nil}, {rows(ints(2, 2, 3, 3, 3, 3, 3), pile(1, 1, 6), pile(2, 2, 7), pile(3, 3, 1)), ints(7, 1), 60, []api.Loss{loss(1, 60)}},
		// Nothing is there, or nothing is lost.
		{late(pile(1, 1)), nil, 0, nil}, {late(pile(1, 1, 3, 1), pile(2, 1, 2)), ints(1, 2, 3), 0, nil}, {late(pile(1, 1, 1, 3), pile(2, 1, 2)), ints(2, 3, 1), 0, nil}, {late(pile(1, 5, 1, 2, 3), pile(2, 4, 6, 5, 4), pile(3, 3, 7, 9, 8), pile(4, 2, 12, 10, 11), pile(5, 1, 15, 13, 14)), ints(3, 2, 1, 4, 5, 6, 8, 9, 7, 11, 10, 12, 14, 13, 15), 0, nil},
	} {
		l, n, e := river.Order(x.f)
		m, f := river.Losses(x.f)
		if !slices.Equal(l, x.order) || n != x.lost || e != api.OK || !slices.Equal(m, x.loses) || f != api.OK {
			t.Error(i, l, n, e, m, f)
		}
		s, e := river.Judge(x.f, l)
		if s.Hi != n || s.Lo > n || e != api.OK {
			t.Error(i, s, e)
		}
	}
}

// P10.4: what can be saved behind what has gone, with the chapter's examples.
func TestRest(t *testing.T) {
	for i, x := range []struct {
		f    api.Flood
		gone []int
		want int
	}{
		{example(), ints(0, 0, 0), 1350}, {example(), ints(2, 0, 0), 550}, {example(), ints(1, 0, 0), 1050}, {example(), ints(0, 1, 0), 950}, {example(), ints(0, 2, 0), 550}, {example(), ints(2, 0, 1), 450}, {example(), ints(2, 0, 2), 0}, {example(), ints(1, 1, 0), 550}, {example(), ints(1, 1, 1), 450}, {example(), ints(0, 0, 2), 500}, {example(), ints(2, 2, 0), 100}, {example(), ints(2, 2, 2), 0}, {example(), ints(2, 1, 0), 100}, {by(), ints(0, 0, 0), 0}, {by(), ints(1, 2, 0), 0}, {by(gang(1, 0, 1)), ints(0, 0, 0), 1950}, {by(gang(1, 0, 1)), ints(1, 2, 1), 950}, {late(pile(1, 1)), ints(0), 0}, {late(pile(1, 1, 3, 2, 1)), ints(1), 50}, {late(pile(1, 1, 3, 2, 1)), ints(3), 0},
	} {
		if n, e := river.Rest(x.f, x.gone); n != x.want || e != api.OK {
			t.Error(i, n, e)
		}
	}
	for i, gone := range [][]int{nil, ints(0, 0), ints(0, 0, 0, 0), ints(0, 0, 0, 0, 0), ints(0, 0, 0, 0, 0, 0), ints(3, 0, 0), ints(0, 3, 0), ints(0, 0, 3), ints(-1, 0, 0), ints(0, 0, -1), ints(math.MinInt, 0, 0), ints(0, math.MaxInt, 0)} {
		for _, f := range []api.Flood{example(), odd()} {
			if n, e := river.Rest(f, gone); n != 0 || e != api.ErrGone {
				t.Error(i, n, e)
			}
		}
	}
	if n, e := river.Rest(late(pile(1, 1)), ints(1)); n != 0 || e != api.ErrGone {
		t.Error(n, e)
	}
}

// P10.4, P10.13: what can be saved by a minute, with the chapter's examples.
func TestBy(t *testing.T) {
	for i, x := range []struct {
		f            api.Flood
		minute, want int
	}{
		{example(), 0, 0}, {example(), 9, 0}, {example(), 10, 300}, {example(), 16, 300}, {example(), 17, 800}, {example(), 20, 1000}, {example(), 28, 1000}, {example(), 29, 1350}, {example(), 600, 1350}, {by(), 600, 0}, {by(gang(1, 0, 10)), 30, 600}, {by(gang(1, 0, 10)), 29, 550}, {late(pile(1, 1)), 600, 0},
		// In one minute two may be saved.
		{by(gang(1, 0, 10), gang(2, 0, 10)), 9, 0}, {by(gang(1, 0, 10), gang(2, 0, 10)), 10, 800},
	} {
		if n, e := river.By(x.f, x.minute); n != x.want || e != api.OK {
			t.Error(i, n, e)
		}
	}
}

// P10.5: what is lost by an order, with the chapter's examples.
func TestJudge(t *testing.T) {
	for i, x := range []struct {
		f     api.Flood
		order []int
		want  api.Span
	}{
		{example(), ints(12, 11, 13, 31), span(600, 600)}, {example(), ints(13, 31, 41, 21), span(800, 1200)}, {example(), nil, span(1950, 1950)}, {example(), ints(12), span(1650, 1650)}, {example(), ints(41, 21, 12, 11, 13, 31), span(0, 950)}, {example(), ints(13, 31, 12, 41, 11, 21), span(900, 900)}, {example(), ints(41, 12, 13, 31, 21, 11), span(900, 900)},
		// More bales than loads; what comes in the minute in which the river does is lost.
		{by(), ints(13, 31), span(1950, 1950)}, {by(gang(1, 0, 15)), ints(41, 21), span(1750, 1750)}, {by(gang(1, 0, 15)), ints(13, 31), span(1400, 1850)}, {by(gang(1, 600, 60)), ints(13, 31, 12, 11, 41, 21), span(1950, 1950)},
		{changed(func(f *api.Flood) {
			f.Gangs, f.Reports = []api.Gang{gang(1, 0, 15)}, []api.Report{report(1, 2, 30, false)}
		}), ints(13, 31), span(1400, 1400)},
		{late(pile(1, 1)), nil, span(0, 0)},
	} {
		if s, e := river.Judge(x.f, x.order); s != x.want || e != api.OK {
			t.Error(i, s, e)
		}
	}
	for i, order := range [][]int{ints(11), ints(12, 12), ints(12, 11, 12), ints(22), ints(0), ints(12, 0), ints(31, 13), ints(13, 41, 31, 12, 21, 11, 13), ints(13, 41, 31, 12, 21, 11, 22), ints(math.MinInt), ints(math.MaxInt), ints(12, 13, 99)} {
		for _, f := range []api.Flood{example(), odd(), by()} {
			if s, e := river.Judge(f, order); s != (api.Span{}) || e != api.ErrTaken {
				t.Error(i, s, e)
			}
		}
	}
}

// P10.5: what one gang more saves, with the chapter's example.
func TestAdds(t *testing.T) {
	three := by(gang(1, 0, 10), gang(2, 5, 12), gang(9, 600, 60))
	for i, x := range []struct {
		f    api.Flood
		g    api.Gang
		want int
		e    api.Errno
	}{
		{example(), gang(3, 0, 15), 200, api.OK}, {example(), gang(3, 0, 1), 600, api.OK}, {example(), gang(3, 600, 1), 0, api.OK}, {by(), gang(1, 0, 1), 1950, api.OK}, {by(), gang(9999, 0, 10), 600, api.OK}, {by(gang(2, 5, 12)), gang(1, 0, 10), 800, api.OK}, {known(), gang(3, 0, 15), 0, api.OK}, {known(), gang(3, 0, 8), 400, api.OK}, {late(pile(1, 1)), gang(2, 0, 1), 0, api.OK},
		// Also if there are as many gangs as there can be.
		{three, gang(3, 0, 15), 200, api.OK}, {three, gang(9, 0, 15), 0, api.ErrGang}, {three, gang(10, 0, 61), 0, api.ErrGang},
		{example(), gang(1, 0, 15), 0, api.ErrGang}, {example(), gang(2, 5, 12), 0, api.ErrGang}, {example(), api.Gang{}, 0, api.ErrGang}, {example(), gang(0, 0, 15), 0, api.ErrGang}, {example(), gang(10000, 0, 15), 0, api.ErrGang}, {example(), gang(math.MinInt, 0, 15), 0, api.ErrGang}, {example(), gang(math.MaxInt, 0, 15), 0, api.ErrGang}, {example(), gang(3, -1, 15), 0, api.ErrGang}, {example(), gang(3, 601, 15), 0, api.ErrGang}, {example(), gang(3, math.MaxInt, 15), 0, api.ErrGang}, {example(), gang(3, 0, 0), 0, api.ErrGang}, {example(), gang(3, 0, 61), 0, api.ErrGang}, {example(), gang(3, 0, math.MaxInt), 0, api.ErrGang}, {example(), gang(3, 0, math.MinInt), 0, api.ErrGang},
		{odd(), gang(3, 0, 15), 0, api.ErrBad}, {odd(), gang(2, 0, 15), 0, api.ErrGang}, {broken(), gang(3, 0, 15), 0, api.ErrFlood}, {broken(), gang(1, 0, 15), 0, api.ErrFlood},
	} {
		if n, e := river.Adds(x.f, x.g); n != x.want || e != x.e {
			t.Error(i, n, e)
		}
	}
}

// P10.6: which reports must be false, with the chapter's example.
func TestWrong(t *testing.T) {
	long := never()
	long.Reports = nil
	for i, x := range []struct {
		f    api.Flood
		want []int
		e    api.Errno
	}{
		{example(), nil, api.OK}, {known(), nil, api.OK}, {odd(), ints(1), api.OK}, {full(), nil, api.OK}, {never(), nil, api.ErrNone}, {long, nil, api.ErrNone}, {many(), nil, api.ErrMany}, {without(many(), ints(2)), ints(1, 3, 4), api.OK}, {without(many(), ints(2, 4)), ints(1, 3), api.OK}, {example(report(7, 1, 19, true)), ints(7), api.OK},
		// Fewer are told before lesser ones; of as many the lesser ones.
		{example(report(1, 2, 39, false), report(2, 2, 38, false), report(3, 2, 37, true)), ints(3), api.OK}, {example(report(1, 2, 39, true), report(2, 2, 38, false), report(3, 2, 40, false)), ints(1), api.OK}, {example(report(1, 2, 39, true), report(2, 2, 38, false), report(3, 2, 37, true), report(4, 2, 40, false)), ints(1, 3), api.OK}, {example(report(1, 3, 50, true), report(2, 1, 24, false), report(3, 3, 50, false)), ints(1), api.OK}, {example(report(2, 4, 56, true), report(3, 3, 51, false), report(5, 2, 46, false)), ints(2, 5), api.OK},
		// Three are not too many, of eight reports too.
		{example(report(1, 1, 25, true), report(2, 1, 26, false), report(3, 2, 35, true), report(4, 2, 36, false), report(5, 7, 100, true), report(6, 7, 101, false), report(7, 4, 60, true), report(8, 4, 50, false)), ints(1, 3, 5), api.OK}, {example(report(1, 1, 25, true), report(2, 1, 26, false), report(3, 2, 35, true), report(4, 2, 36, false), report(5, 7, 100, true), report(6, 7, 101, false), report(7, 6, 80, true), report(8, 6, 80, false)), nil, api.ErrMany},
		{broken(), nil, api.ErrFlood},
	} {
		if l, e := river.Wrong(x.f); !slices.Equal(l, x.want) || e != x.e {
			t.Error(i, l, e)
		}
	}
}
