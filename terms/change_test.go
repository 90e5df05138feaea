package terms_test

import (
	"math"
	"slices"
	"testing"

	"middling/api"
	"middling/terms"
	"middling/testhelp"
)

// P4.8: another number for a grade, with the chapter's examples.
func TestStep(t *testing.T) {
	low := changed(func(t *api.Terms) { t.Price = 76 })
	for i, x := range []struct {
		t            api.Terms
		grade, pence int
		e            api.Errno
	}{
		{example(), 5, -30, api.OK}, {example(), 5, 0, api.OK}, {example(), 5, -60, api.OK}, {example(), 4, 0, api.OK}, {example(), 1, 45, api.OK}, {example(), 1, 1000, api.OK}, {example(), 9, -1000, api.OK}, {example(), 9, -160, api.OK}, {low, 6, -60, api.OK}, {low, 6, -59, api.OK}, {low, 7, -1000, api.ErrTerms},
		{example(), 5, 10, api.ErrTerms}, {example(), 4, 1, api.ErrTerms}, {example(), 4, -1, api.ErrTerms}, {example(), 5, -61, api.ErrTerms}, {example(), 5, 1, api.ErrTerms}, {example(), 1, 44, api.ErrTerms}, {example(), 1, 1001, api.ErrTerms}, {example(), 9, -1001, api.ErrTerms}, {example(), 9, -159, api.ErrTerms}, {low, 6, -61, api.ErrTerms}, {example(), 1, math.MaxInt, api.ErrTerms}, {example(), 9, math.MinInt, api.ErrTerms},
		{example(), 0, 0, api.ErrGrade}, {example(), 10, 0, api.ErrGrade}, {example(), -1, 0, api.ErrGrade}, {example(), math.MaxInt, math.MaxInt, api.ErrGrade}, {example(), math.MinInt, 0, api.ErrGrade}, {broken(), 0, 0, api.ErrTerms}, {broken(), 5, -25, api.ErrTerms},
	} {
		want := api.Terms{}
		if x.e == api.OK {
			want = copied(x.t)
			want.Grades[x.grade-1] = x.pence
		}
		if y, e := terms.Step(x.t, x.grade, x.pence); e != x.e || !same(y, want) {
			t.Error(i, y, e)
		}
	}
}

// P4.8, P4.15: another base, with the chapter's examples.
func TestRebase(t *testing.T) {
	want := api.Terms{Base: class(5, 4), Price: 460, Worst: 6, Short: 4, Grades: ints(85, 70, 45, 25, 0, -35, -75, -135, -215), Staples: ints(-75, -45, -25, 0, 15, 25, 40, 45, 45), Due: span(8, 10), Bales: 5, Fee: 12}
	if y, e := terms.Rebase(example(), class(5, 4)); !same(y, want) || e != api.OK {
		t.Error(y, e)
	}
	if y, e := terms.Rebase(want, class(4, 5)); !same(y, example()) || e != api.OK {
		t.Error(y, e)
	}
	best := changed(func(t *api.Terms) { t.Grades[0] = 1000 })
	worst := changed(func(t *api.Terms) { t.Grades[8] = -1000 })
	longest := changed(func(t *api.Terms) { t.Staples[8] = 1000 })
	shortest := changed(func(t *api.Terms) { t.Staples[0] = -1000 })
	dear := changed(func(t *api.Terms) { t.Price = 1000000 })
	low := changed(func(t *api.Terms) { t.Price = 76 })
	for i, x := range []struct {
		t     api.Terms
		c     api.Class
		price int
		e     api.Errno
	}{
		{example(), class(4, 5), 500, api.OK}, {example(), class(1, 9), 590, api.OK}, {example(), class(6, 4), 425, api.OK}, {low, class(6, 4), 1, api.OK}, {dear, class(5, 5), 999975, api.OK}, {flat(3), class(9, 1), 3, api.OK}, {best, class(4, 6), 510, api.OK}, {shortest, class(5, 4), 460, api.OK},
		{example(), class(7, 5), 0, api.ErrNone}, {example(), class(4, 3), 0, api.ErrNone}, {dear, class(9, 9), 0, api.ErrNone},
		{best, class(5, 5), 0, api.ErrTerms}, {worst, class(3, 5), 0, api.ErrTerms}, {longest, class(4, 4), 0, api.ErrTerms}, {shortest, class(4, 6), 0, api.ErrTerms}, {dear, class(3, 5), 0, api.ErrTerms}, {dear, class(4, 6), 0, api.ErrTerms}, {broken(), class(4, 5), 0, api.ErrTerms},
	} {
		if y, e := terms.Rebase(x.t, x.c); e != x.e || y.Price != x.price || e == api.OK && y.Base != x.c || e != api.OK && !same(y, api.Terms{}) {
			t.Error(i, y, e)
		}
	}
}

// P4.8, P4.16: terms for the bales of both.
func TestJoin(t *testing.T) {
	three := changed(func(t *api.Terms) { t.Bales = 3 })
	many := changed(func(t *api.Terms) { t.Bales = 15 })
	for i, x := range []struct {
		a, b api.Terms
		want int
		e    api.Errno
	}{
		{example(), example(), 10, api.OK}, {example(), three, 8, api.OK}, {three, three, 6, api.OK}, {many, example(), 20, api.OK}, {example(), many, 20, api.OK}, {flat(7), flat(7), 0, api.ErrFull}, {many, changed(func(t *api.Terms) { t.Bales = 6 }), 0, api.ErrFull}, {many, many, 0, api.ErrFull},
		{broken(), example(), 0, api.ErrTerms}, {example(), broken(), 0, api.ErrTerms}, {broken(), broken(), 0, api.ErrTerms}, {example(), api.Terms{}, 0, api.ErrTerms}, {many, changed(func(t *api.Terms) { t.Bales = math.MaxInt }), 0, api.ErrTerms},
	} {
		want := api.Terms{}
		if x.e == api.OK {
			want = changed(func(t *api.Terms) { t.Bales = x.want })
		}
		if y, e := terms.Join(x.a, x.b); e != x.e || !same(y, want) {
			t.Error(i, y, e)
		}
	}
	// Terms that differ in something else too, with as many bales together as could be, or more.
	for name, change := range map[string]func(t *api.Terms){
		"the base's grade":  func(t *api.Terms) { t.Grades[4], t.Base.Grade = 0, 5 },
		"the base's staple": func(t *api.Terms) { t.Staples[5], t.Base.Staple = 0, 6 },
		"the price":         func(t *api.Terms) { t.Price++ },
		"worst":             func(t *api.Terms) { t.Worst++ },
		"short":             func(t *api.Terms) { t.Short-- },
		"a grade":           func(t *api.Terms) { t.Grades[8]-- },
		"the first grade":   func(t *api.Terms) { t.Grades[0]++ },
		"a staple":          func(t *api.Terms) { t.Staples[8]++ },
		"the first staple":  func(t *api.Terms) { t.Staples[0]-- },
		"due from":          func(t *api.Terms) { t.Due.Lo-- },
		"due to":            func(t *api.Terms) { t.Due.Hi++ },
		"the fee":           func(t *api.Terms) { t.Fee++ },
	} {
		other := changed(change)
		for _, bales := range ints(5, 20) {
			other.Bales = bales
			if y, e := terms.Join(example(), other); e != api.ErrArg || !same(y, api.Terms{}) {
				t.Error(name, y, e)
			}
			if y, e := terms.Join(other, example()); e != api.ErrArg || !same(y, api.Terms{}) {
				t.Error(name, y, e)
			}
		}
	}
	// Whose bases alone differ: all classes have the same value, and may be delivered.
	other := flat(7)
	other.Base = class(2, 9)
	if y, e := terms.Join(flat(7), other); e != api.ErrArg || !same(y, api.Terms{}) {
		t.Error(y, e)
	}
}

// P4.8, P4.16: terms for so many bales, and for the rest.
func TestSplit(t *testing.T) {
	for i, x := range []struct {
		t         api.Terms
		bales, of int
		e         api.Errno
	}{
		{example(), 2, 3, api.OK}, {example(), 1, 4, api.OK}, {example(), 4, 1, api.OK}, {flat(7), 19, 1, api.OK},
		{example(), 5, 0, api.ErrArg}, {example(), 0, 0, api.ErrArg}, {example(), -1, 0, api.ErrArg}, {example(), 6, 0, api.ErrArg}, {example(), math.MinInt, 0, api.ErrArg}, {example(), math.MaxInt, 0, api.ErrArg}, {changed(func(t *api.Terms) { t.Bales = 1 }), 1, 0, api.ErrArg}, {broken(), 0, 0, api.ErrTerms},
	} {
		var one, rest api.Terms
		if x.e == api.OK {
			one, rest = copied(x.t), copied(x.t)
			one.Bales, rest.Bales = x.bales, x.of
		}
		if a, b, e := terms.Split(x.t, x.bales); e != x.e || !same(a, one) || !same(b, rest) {
			t.Error(i, a, b, e)
		}
	}
}

// roomy is terms whose lists have capacity behind their ends, in which nothing may be written.
func roomy() api.Terms {
	return changed(func(t *api.Terms) { t.Grades, t.Staples = testhelp.Grown(t.Grades), testhelp.Grown(t.Staples) })
}

func whole(t api.Terms) api.Terms {
	t.Grades, t.Staples = t.Grades[:cap(t.Grades)], t.Staples[:cap(t.Staples)]
	return t
}

// P1, R3: no argument is written to, also not behind its end.
func TestArgumentsStay(t *testing.T) {
	y, d := roomy(), day(510)
	d.Grades, d.Staples = testhelp.Grown(d.Grades), testhelp.Grown(d.Staples)
	before, grades, staples := copied(whole(y)), slices.Clone(d.Grades[:cap(d.Grades)]), slices.Clone(d.Staples[:cap(d.Staples)])
	bales := testhelp.Grown([]api.Class{class(4, 5), class(7, 5)})
	for _, c := range calls() {
		for _, n := range ints(4, 5, 6, 7) {
			c.do(y, asks{n, n, n, span(n-1, n), span(n, n+1), n + 2, d})
		}
	}
	if _, e := terms.Rebase(y, class(5, 4)); e != api.OK {
		t.Error(e)
	}
	if _, e := terms.Step(y, 5, -30); e != api.OK {
		t.Error(e)
	}
	if _, l, e := terms.Total(y, 9, bales); !slices.Equal(l, ints(1)) || e != api.OK {
		t.Error(l, e)
	}
	if !same(whole(y), before) {
		t.Error(whole(y))
	}
	if !slices.Equal(d.Grades[:cap(d.Grades)], grades) || !slices.Equal(d.Staples[:cap(d.Staples)], staples) {
		t.Error(d)
	}
	if !slices.Equal(bales[:4], []api.Class{class(4, 5), class(7, 5), class(0, 0), class(0, 0)}) {
		t.Error(bales[:4])
	}
}

// P1, R3: a result shares no memory with an argument, nor with another result; no two lists of it do.
func TestResultsAreNew(t *testing.T) {
	y := roomy()
	before := copied(whole(y))
	step, _ := terms.Step(y, 5, -30)
	base, _ := terms.Rebase(y, y.Base)
	other, _ := terms.Rebase(y, class(5, 4))
	both, _ := terms.Join(y, y)
	a, b, _ := terms.Split(y, 2)
	again, _ := terms.Join(a, b)
	var tables [][]int
	for _, x := range []api.Terms{step, base, other, both, a, b, again} {
		tables = append(tables, x.Grades, x.Staples)
	}
	if slices.ContainsFunc(tables, func(l []int) bool { return len(l) != 9 }) {
		t.Error(tables)
	}
	if !testhelp.Apart(tables, slices.Clone, slices.Equal, func(l []int) { testhelp.Spoil(l, 77) }) || !same(whole(y), before) {
		t.Error(whole(y))
	}
}

// P1, R3: nothing is remembered, also not by a list that is told.
func TestListsAreNew(t *testing.T) {
	for range 2 {
		_, l, e := terms.Total(example(), 9, []api.Class{class(7, 5), class(4, 5), class(4, 3)})
		if !slices.Equal(l, ints(0, 2)) || e != api.OK {
			t.Error(l, e)
		}
		testhelp.Spoil(l, 77)
	}
}

// P1, R4: nil lists and empty ones are the same.
func TestNilAndEmpty(t *testing.T) {
	for _, l := range [][]int{nil, {}} {
		y := changed(func(t *api.Terms) { t.Staples = l })
		if e := terms.Check(y); e != api.ErrTerms {
			t.Error(e)
		}
		d := day(510)
		d.Staples = l
		if _, _, e := terms.Cheapest(example(), d); e != api.ErrDay {
			t.Error(e)
		}
	}
	for _, l := range [][]api.Class{nil, {}} {
		if n, refused, e := terms.Total(example(), 9, l); n != 0 || len(refused) != 0 || e != api.OK {
			t.Error(n, refused, e)
		}
	}
	for _, l := range [][]api.Day{nil, {}} {
		if m, c, n, e := terms.Month(example(), l); m != 0 || c != class(0, 0) || n != 0 || e != api.ErrArg {
			t.Error(m, c, n, e)
		}
	}
}
