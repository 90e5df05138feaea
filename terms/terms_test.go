package terms_test

import (
	"math"
	"slices"
	"testing"

	"middling/api"
	"middling/terms"
)

// P4.2: what may be delivered, and the invoice of it, with the chapter's examples.
func TestInvoice(t *testing.T) {
	for i, x := range []struct {
		t       api.Terms
		c       api.Class
		month   int
		is      bool
		invoice int
		e       api.Errno
	}{
		{example(), class(3, 6), 9, true, 530, api.OK}, {example(), class(6, 4), 8, true, 425, api.OK}, {example(), class(6, 4), 10, true, 425, api.OK}, {example(), class(6, 4), 11, false, 425, api.OK}, {example(), class(6, 4), 7, false, 425, api.OK}, {example(), class(4, 5), 0, false, 500, api.OK}, {example(), class(4, 5), 60, false, 500, api.OK},
		{example(), class(1, 9), 9, true, 590, api.OK}, {example(), class(1, 4), 9, true, 545, api.OK}, {example(), class(6, 9), 9, true, 470, api.OK},
		{example(), class(7, 5), 9, false, 0, api.ErrNone}, {example(), class(9, 9), 9, false, 0, api.ErrNone}, {example(), class(4, 3), 9, false, 0, api.ErrNone}, {example(), class(1, 1), 9, false, 0, api.ErrNone}, {example(), class(9, 1), 9, false, 0, api.ErrNone},
		{flat(1), class(9, 1), 0, true, 1, api.OK}, {flat(1), class(1, 9), 1, false, 1, api.OK}, {flat(1000000), class(5, 5), 0, true, 1000000, api.OK},
	} {
		if is, e := terms.Allows(x.t, x.c, x.month); is != x.is || e != api.OK {
			t.Error(i, is, e)
		}
		if n, e := terms.Invoice(x.t, x.c); n != x.invoice || e != x.e {
			t.Error(i, n, e)
		}
	}
}

// P4.2: classes that are not known exactly, with the chapter's examples.
func TestKnown(t *testing.T) {
	const no, open, yes = api.KnownNo, api.KnownOpen, api.KnownYes
	for i, x := range []struct {
		grades, staples api.Span
		month           int
		known           uint8
		want            api.Span
		e               api.Errno
	}{
		{span(5, 7), span(5, 5), 9, open, span(440, 475), api.OK}, {span(5, 6), span(5, 5), 9, yes, span(440, 475), api.OK}, {span(3, 7), span(4, 6), 9, open, span(425, 530), api.OK}, {span(3, 6), span(4, 6), 9, yes, span(425, 530), api.OK}, {span(3, 6), span(3, 6), 9, open, span(425, 530), api.OK},
		{span(1, 9), span(1, 9), 9, open, span(425, 590), api.OK}, {span(1, 6), span(4, 9), 8, yes, span(425, 590), api.OK}, {span(6, 9), span(1, 4), 10, open, span(425, 425), api.OK}, {span(4, 4), span(5, 5), 10, yes, span(500, 500), api.OK},
		{span(5, 6), span(5, 5), 7, no, span(440, 475), api.OK}, {span(5, 6), span(5, 5), 11, no, span(440, 475), api.OK}, {span(5, 7), span(5, 5), 60, no, span(440, 475), api.OK}, {span(5, 7), span(5, 5), 0, no, span(440, 475), api.OK},
		{span(7, 9), span(1, 9), 9, no, span(0, 0), api.ErrNone}, {span(1, 9), span(1, 3), 9, no, span(0, 0), api.ErrNone}, {span(7, 7), span(3, 3), 9, no, span(0, 0), api.ErrNone},
	} {
		if k, e := terms.Known(example(), x.grades, x.staples, x.month); k != x.known || e != api.OK {
			t.Error(i, k, e)
		}
		if s, e := terms.Range(example(), x.grades, x.staples); s != x.want || e != x.e {
			t.Error(i, s, e)
		}
	}
}

// P4.3: what is paid, with the chapter's examples.
func TestPays(t *testing.T) {
	for i, x := range []struct {
		fee, said, grade, staple int
		ask                      bool
		gets, pays               int
		e                        api.Errno
	}{
		{12, 4, 6, 5, true, 428, 440, api.OK}, {12, 4, 3, 5, true, 500, 512, api.OK}, {12, 4, 4, 5, true, 500, 512, api.OK}, {12, 4, 7, 5, true, -12, 0, api.OK}, {12, 4, 9, 5, true, -12, 0, api.OK},
		{12, 4, 6, 5, false, 500, 500, api.OK}, {12, 4, 3, 5, false, 500, 500, api.OK}, {12, 4, 9, 5, false, 500, 500, api.OK}, {12, 6, 1, 4, false, 425, 425, api.OK},
		{0, 4, 6, 5, true, 440, 440, api.OK}, {0, 4, 7, 5, true, 0, 0, api.OK}, {0, 6, 1, 9, true, 470, 470, api.OK}, {1000, 4, 5, 5, true, -525, 475, api.OK}, {1000, 4, 4, 5, true, 500, 1500, api.OK},
		{12, 7, 1, 5, true, 0, 0, api.ErrNone}, {12, 7, 1, 5, false, 0, 0, api.ErrNone}, {12, 4, 4, 3, true, 0, 0, api.ErrNone}, {12, 4, 4, 3, false, 0, 0, api.ErrNone},
	} {
		if gets, pays, e := terms.Pays(cotton(x.fee), x.said, x.grade, x.staple, x.ask); gets != x.gets || pays != x.pays || e != x.e {
			t.Error(i, gets, pays, e)
		}
	}
}

// P4.4: whether another look is worth its fee, with the chapter's examples.
func TestAsk(t *testing.T) {
	for i, x := range []struct {
		fee, said int
		grades    api.Span
		staple    int
		ask       bool
		loss      int
		e         api.Errno
	}{
		{12, 4, span(4, 6), 5, true, 12, api.OK}, {12, 4, span(4, 4), 5, false, 0, api.OK}, {12, 5, span(4, 5), 5, false, 0, api.OK}, {12, 4, span(5, 6), 5, true, 0, api.OK},
		{40, 5, span(5, 6), 5, false, 35, api.OK}, {34, 5, span(5, 6), 5, true, 34, api.OK}, {35, 5, span(5, 6), 5, false, 35, api.OK}, {30, 4, span(4, 5), 5, false, 25, api.OK}, {25, 4, span(4, 5), 5, false, 25, api.OK}, {24, 4, span(4, 5), 5, true, 24, api.OK},
		{0, 4, span(4, 4), 5, false, 0, api.OK}, {0, 4, span(4, 5), 5, true, 0, api.OK}, {12, 6, span(1, 3), 5, false, -80, api.OK}, {12, 4, span(7, 9), 5, true, 0, api.OK}, {12, 4, span(9, 9), 5, true, 0, api.OK}, {1000, 4, span(4, 9), 5, false, 240, api.OK}, {1000, 4, span(5, 9), 5, true, 0, api.OK}, {239, 4, span(4, 9), 5, true, 239, api.OK}, {240, 4, span(4, 9), 9, false, 240, api.OK},
		{12, 4, span(4, 4), 3, false, 0, api.ErrNone}, {12, 7, span(4, 4), 5, false, 0, api.ErrNone}, {12, 9, span(9, 9), 9, false, 0, api.ErrNone},
	} {
		if ask, loss, e := terms.Ask(cotton(x.fee), x.said, x.grades, x.staple); ask != x.ask || loss != x.loss || e != x.e {
			t.Error(i, ask, loss, e)
		}
	}
	// Without a fee, if grades bring alike, neither choice loses more.
	if ask, loss, e := terms.Ask(flat(7), 3, span(1, 9), 5); ask || loss != 0 || e != api.OK {
		t.Error(ask, loss, e)
	}
}

// P4.5: the grade that should be said, with the chapter's examples.
func TestSay(t *testing.T) {
	for i, x := range []struct {
		fee        int
		grades     api.Span
		staple     int
		said, gets int
		e          api.Errno
	}{
		{12, span(5, 6), 5, 6, 440, api.OK}, {40, span(5, 6), 5, 5, 475, api.OK}, {34, span(5, 6), 5, 6, 440, api.OK}, {35, span(5, 6), 5, 5, 475, api.OK},
		{0, span(4, 4), 5, 1, 500, api.OK}, {12, span(4, 4), 5, 4, 500, api.OK}, {12, span(1, 2), 5, 2, 545, api.OK}, {15, span(1, 2), 5, 1, 560, api.OK}, {12, span(1, 6), 4, 6, 425, api.OK},
		{12, span(7, 9), 5, 1, -12, api.OK}, {0, span(8, 8), 5, 1, 0, api.OK}, {1000, span(9, 9), 5, 1, -1000, api.OK}, {1000, span(1, 9), 5, 1, 560, api.OK},
		{12, span(4, 4), 3, 0, 0, api.ErrNone}, {12, span(1, 9), 1, 0, 0, api.ErrNone},
	} {
		if said, gets, e := terms.Say(cotton(x.fee), x.grades, x.staple); said != x.said || gets != x.gets || e != x.e {
			t.Error(i, said, gets, e)
		}
	}
	if said, gets, e := terms.Say(flat(7), span(3, 9), 5); said != 1 || gets != 7 || e != api.OK {
		t.Error(said, gets, e)
	}
}

// P4.6: the cheapest class to deliver, with the chapter's examples.
func TestCheapest(t *testing.T) {
	own := api.Day{Price: 500, Grades: example().Grades, Staples: example().Staples}
	long := api.Day{Price: 500, Grades: example().Grades, Staples: ints(0, 0, 0, 30, 30, 30, 35, 35, 35)}
	for i, x := range []struct {
		t     api.Terms
		d     api.Day
		want  api.Class
		pence int
	}{
		{example(), day(510), class(5, 4), -10}, {example(), day(280), class(5, 4), -240}, {example(), own, class(1, 4), 0}, {example(), long, class(1, 8), 5}, {flat(5), day(300), class(9, 1), 15}, {flat(1000000), day(1000000), class(9, 1), -280}, {flat(1), day(1000000), class(9, 1), 999719},
	} {
		if c, n, e := terms.Cheapest(x.t, x.d); c != x.want || n != x.pence || e != api.OK {
			t.Error(i, c, n, e)
		}
		if n, e := terms.Dearer(x.t, x.d, x.want); n != 0 || e != api.OK {
			t.Error(i, n, e)
		}
	}
	for i, x := range []struct {
		d    api.Day
		c    api.Class
		want int
		e    api.Errno
	}{
		{day(510), class(4, 5), 20, api.OK}, {day(511), class(4, 5), 20, api.OK}, {day(510), class(5, 4), 0, api.OK}, {day(510), class(5, 5), 5, api.OK}, {day(510), class(1, 9), 40, api.OK}, {own, class(6, 9), 0, api.OK}, {long, class(1, 4), 40, api.OK},
		{day(510), class(7, 4), 0, api.ErrNone}, {day(510), class(6, 3), 0, api.ErrNone}, {day(510), class(9, 1), 0, api.ErrNone},
	} {
		if n, e := terms.Dearer(example(), x.d, x.c); n != x.want || e != x.e {
			t.Error(i, n, e)
		}
	}
}

// P4.6: the month in which to deliver, with the chapter's examples.
func TestMonth(t *testing.T) {
	once := changed(func(t *api.Terms) { t.Due = span(60, 60) })
	always := changed(func(t *api.Terms) { t.Due = span(0, 60) })
	last := slices.Repeat(days(510), 61)
	last[60] = day(509)
	// On another day another class is the cheapest one, at the same price.
	other := day(505)
	other.Grades[0] = 45
	for i, x := range []struct {
		t     api.Terms
		l     []api.Day
		month int
		c     api.Class
		pence int
		e     api.Errno
	}{
		{example(), days(510, 505, 520), 9, class(5, 4), -15, api.OK}, {example(), days(505, 505, 505), 8, class(5, 4), -15, api.OK}, {example(), days(510, 505, 504), 10, class(5, 4), -16, api.OK}, {example(), days(510, 505, 505), 9, class(5, 4), -15, api.OK}, {once, days(600), 60, class(5, 4), 80, api.OK}, {always, last, 60, class(5, 4), -11, api.OK}, {always, slices.Repeat(days(510), 61), 0, class(5, 4), -10, api.OK},
		{example(), []api.Day{day(510), other, day(520)}, 9, class(1, 4), -15, api.OK}, {example(), []api.Day{day(505), other, day(520)}, 8, class(5, 4), -15, api.OK},
		{example(), nil, 0, class(0, 0), 0, api.ErrArg}, {example(), days(510, 505), 0, class(0, 0), 0, api.ErrArg}, {example(), days(510, 505, 500, 500), 0, class(0, 0), 0, api.ErrArg}, {once, nil, 0, class(0, 0), 0, api.ErrArg}, {example(), make([]api.Day, 2), 0, class(0, 0), 0, api.ErrArg}, {example(), make([]api.Day, 3), 0, class(0, 0), 0, api.ErrDay}, {example(), []api.Day{day(500), day(500), short()}, 0, class(0, 0), 0, api.ErrDay},
	} {
		if m, c, n, e := terms.Month(x.t, x.l); m != x.month || c != x.c || n != x.pence || e != x.e {
			t.Error(i, m, c, n, e)
		}
	}
}

// P4.7: some bales, with the chapter's examples.
func TestTotal(t *testing.T) {
	for i, x := range []struct {
		t       api.Terms
		month   int
		l       []api.Class
		pence   int
		refused []int
		e       api.Errno
	}{
		{example(), 9, []api.Class{class(4, 5), class(7, 5), class(5, 4)}, 960, ints(1), api.OK}, {example(), 8, nil, 0, nil, api.OK}, {example(), 10, slices.Repeat([]api.Class{class(9, 9)}, 5), 0, ints(0, 1, 2, 3, 4), api.OK}, {example(), 10, slices.Repeat([]api.Class{class(1, 9)}, 5), 2950, nil, api.OK}, {example(), 9, []api.Class{class(4, 3), class(4, 4), class(7, 3)}, 485, ints(0, 2), api.OK}, {flat(1000000), 0, slices.Repeat([]api.Class{class(9, 1)}, 20), 20000000, nil, api.OK},
		{example(), 7, nil, 0, nil, api.ErrMonth}, {example(), 11, nil, 0, nil, api.ErrMonth}, {example(), -1, nil, 0, nil, api.ErrMonth}, {example(), math.MaxInt, nil, 0, nil, api.ErrMonth}, {example(), math.MinInt, make([]api.Class, 6), 0, nil, api.ErrMonth},
		{example(), 10, make([]api.Class, 6), 0, nil, api.ErrMany}, {example(), 10, slices.Repeat([]api.Class{class(9, 9)}, 6), 0, nil, api.ErrMany}, {flat(1), 0, make([]api.Class, 21), 0, nil, api.ErrMany},
		{example(), 9, []api.Class{class(4, 5), class(4, 0), class(0, 5)}, 0, nil, api.ErrStaple}, {example(), 9, []api.Class{class(7, 5), class(10, 5), class(4, 10)}, 0, nil, api.ErrGrade}, {example(), 9, []api.Class{class(4, 5), class(10, 0)}, 0, nil, api.ErrGrade}, {example(), 9, []api.Class{class(math.MinInt, math.MaxInt)}, 0, nil, api.ErrGrade}, {example(), 9, []api.Class{class(9, math.MaxInt)}, 0, nil, api.ErrStaple}, {example(), 9, make([]api.Class, 5), 0, nil, api.ErrGrade},
	} {
		if n, l, e := terms.Total(x.t, x.month, x.l); n != x.pence || !slices.Equal(l, x.refused) || e != x.e {
			t.Error(i, n, l, e)
		}
	}
}
