package terms_test

import (
	"math/rand"
	"slices"
	"testing"

	"middling/api"
	"middling/terms"
)

// valueOf is the value of a class, by the chapter's words.
func valueOf(t api.Terms, c api.Class) int {
	return t.Price + t.Grades[c.Grade-1] + t.Staples[c.Staple-1]
}

// mayGo tells whether a class may be delivered, by the chapter's words.
func mayGo(t api.Terms, c api.Class) bool {
	return !(c.Grade > t.Worst) && !(c.Staple < t.Short)
}

// deliverable are all classes that may be delivered.
func deliverable(t api.Terms) []api.Class {
	return slices.DeleteFunc(classes(), func(c api.Class) bool { return !mayGo(t, c) })
}

// P4.2, P4.14: each class, in each month.
func TestInvoicesByWords(t *testing.T) {
	counts := map[bool]int{}
	eachTerms(t, 150, func(y api.Terms, c *rand.Rand) bool {
		ok := true
		month := c.Intn(api.MaxMonth + 1)
		for _, c := range classes() {
			is, e := terms.Allows(y, c, month)
			counts[is]++
			ok = ok && is == (mayGo(y, c) && month >= y.Due.Lo && month <= y.Due.Hi) && e == api.OK
			n, e := terms.Invoice(y, c)
			if mayGo(y, c) {
				ok = ok && n == valueOf(y, c) && n >= 1 && e == api.OK
			} else {
				ok = ok && n == 0 && e == api.ErrNone
			}
		}
		return ok
	})
	if counts[true] < 500 || counts[false] < 500 {
		t.Error(counts)
	}
}

// P4.2, P4.9: each span of grades, with some of staples.
func TestKnownByWords(t *testing.T) {
	counts := map[uint8]int{}
	eachTerms(t, 150, func(y api.Terms, c *rand.Rand) bool {
		ok := true
		for _, grades := range spans() {
			staples, month := anySpan(c, 1, 9), c.Intn(api.MaxMonth+1)
			if c.Intn(4) > 0 {
				month = y.Due.Lo
			}
			yes, no := 0, 0
			var invoices []int
			for _, c := range classes() {
				if !has(grades, c.Grade) || !has(staples, c.Staple) {
					continue
				}
				if mayGo(y, c) {
					invoices = append(invoices, valueOf(y, c))
				}
				if mayGo(y, c) && month >= y.Due.Lo && month <= y.Due.Hi {
					yes++
				} else {
					no++
				}
			}
			want := uint8(api.KnownOpen)
			if no == 0 {
				want = api.KnownYes
			} else if yes == 0 {
				want = api.KnownNo
			}
			counts[want]++
			k, e := terms.Known(y, grades, staples, month)
			ok = ok && k == want && e == api.OK
			s, e := terms.Range(y, grades, staples)
			if len(invoices) == 0 {
				ok = ok && s == api.Span{} && e == api.ErrNone
			} else {
				ok = ok && s == span(slices.Min(invoices), slices.Max(invoices)) && e == api.OK
			}
		}
		return ok
	})
	if counts[api.KnownNo] < 500 || counts[api.KnownOpen] < 500 || counts[api.KnownYes] < 500 {
		t.Error(counts)
	}
}

func has(s api.Span, n int) bool { return n >= s.Lo && n <= s.Hi }

// lookedAt tells what is got, paid and lost, by the chapter's words.
func lookedAt(t api.Terms, said, grade, staple int, ask bool) (gets, pays, loses int) {
	bySaid, byTrue := valueOf(t, class(said, staple)), valueOf(t, class(grade, staple))
	has := byTrue
	if !ask {
		gets, pays = bySaid, bySaid
	} else if grade > said {
		gets = -t.Fee
		if mayGo(t, class(grade, staple)) {
			gets, pays = gets+byTrue, byTrue
		} else {
			has = 0
		}
	} else {
		gets, pays = bySaid, bySaid+t.Fee
	}
	return gets, pays, pays - has
}

// asksBy tells what the receiver should do if a grade is said, and what it loses then at most, by the chapter's words.
func asksBy(t api.Terms, said int, grades api.Span, staple int) (ask bool, loss int) {
	var with, without []int
	for grade := grades.Lo; grade <= grades.Hi; grade++ {
		_, _, n := lookedAt(t, said, grade, staple, true)
		_, _, m := lookedAt(t, said, grade, staple, false)
		with, without = append(with, n), append(without, m)
	}
	if slices.Max(with) < slices.Max(without) {
		return true, slices.Max(with)
	}
	return false, slices.Max(without)
}

// getsBy tells what who delivers gets at least if it says a grade, by the chapter's words.
func getsBy(t api.Terms, said int, grades api.Span, staple int) int {
	ask, _ := asksBy(t, said, grades, staple)
	var l []int
	for grade := grades.Lo; grade <= grades.Hi; grade++ {
		n, _, _ := lookedAt(t, said, grade, staple, ask)
		l = append(l, n)
	}
	return slices.Min(l)
}

// P4.3, P4.10: each grade that is said, with each one that is true.
func TestPaysByWords(t *testing.T) {
	eachTerms(t, 150, func(y api.Terms, c *rand.Rand) bool {
		ok := true
		for _, x := range classes() {
			grade, ask := 1+c.Intn(9), c.Intn(2) == 0
			gets, pays, e := terms.Pays(y, x.Grade, grade, x.Staple, ask)
			if !mayGo(y, x) {
				ok = ok && gets == 0 && pays == 0 && e == api.ErrNone
				continue
			}
			n, m, _ := lookedAt(y, x.Grade, grade, x.Staple, ask)
			ok = ok && gets == n && pays == m && e == api.OK
		}
		return ok
	})
}

// P4.4: each grade that is said, with each span of grades.
func TestAskByWords(t *testing.T) {
	counts := map[bool]int{}
	eachTerms(t, 150, func(y api.Terms, c *rand.Rand) bool {
		ok := true
		for _, grades := range spans() {
			for said := 1; said <= api.MaxGrade; said++ {
				staple := 1 + c.Intn(9)
				ask, loss, e := terms.Ask(y, said, grades, staple)
				if !mayGo(y, class(said, staple)) {
					ok = ok && !ask && loss == 0 && e == api.ErrNone
					continue
				}
				is, n := asksBy(y, said, grades, staple)
				counts[is]++
				ok = ok && ask == is && loss == n && e == api.OK
			}
		}
		return ok
	})
	if counts[true] < 500 || counts[false] < 500 {
		t.Error(counts)
	}
}

// P4.5: each span of grades, with each staple.
func TestSayByWords(t *testing.T) {
	counts := map[string]int{}
	eachTerms(t, 100, func(y api.Terms, _ *rand.Rand) bool {
		ok := true
		for _, grades := range spans() {
			for staple := 1; staple <= api.MaxStaple; staple++ {
				said, gets, e := terms.Say(y, grades, staple)
				if staple < y.Short {
					ok = ok && said == 0 && gets == 0 && e == api.ErrNone
					continue
				}
				best, most := 0, 0
				for by := 1; by <= y.Worst; by++ {
					if n := getsBy(y, by, grades, staple); best == 0 || n > most {
						best, most = by, n
					}
				}
				counts[saidAs(best, grades)]++
				ok = ok && said == best && gets == most && e == api.OK
			}
		}
		return ok
	})
	for _, name := range []string{"better", "the best", "within", "the worst"} {
		if counts[name] < 300 {
			t.Error(counts)
		}
	}
}

// saidAs tells where a grade that is said lies.
func saidAs(said int, grades api.Span) string {
	switch {
	case said < grades.Lo:
		return "better"
	case said == grades.Hi:
		return "the worst"
	case said == grades.Lo:
		return "the best"
	case said < grades.Hi:
		return "within"
	}
	return "worse"
}

// costsBy tells what it costs to deliver a class, by the chapter's words.
func costsBy(t api.Terms, d api.Day, c api.Class) int {
	return d.Price + d.Grades[c.Grade-1] + d.Staples[c.Staple-1] - valueOf(t, c)
}

// cheapestBy tells the first class that costs least, by the chapter's words.
func cheapestBy(t api.Terms, d api.Day) (api.Class, int) {
	l := deliverable(t)
	first := l[0]
	for _, c := range l {
		n, least := costsBy(t, d, c), costsBy(t, d, first)
		if n < least || n == least && (c.Grade < first.Grade || c.Grade == first.Grade && c.Staple < first.Staple) {
			first = c
		}
	}
	return first, costsBy(t, d, first)
}

// P4.6: each class, on a day, and each month.
func TestCheapestByWords(t *testing.T) {
	below, ties := 0, 0
	eachTerms(t, 300, func(y api.Terms, c *rand.Rand) bool {
		d := anyDay(c, y)
		best, least := cheapestBy(y, d)
		x, n, e := terms.Cheapest(y, d)
		ok := x == best && n == least && e == api.OK
		if n < 0 {
			below++
		}
		alike := 0
		for _, c := range classes() {
			n, e := terms.Dearer(y, d, c)
			if !mayGo(y, c) {
				ok = ok && n == 0 && e == api.ErrNone
				continue
			}
			ok = ok && n == costsBy(y, d, c)-least && e == api.OK
			if n == 0 {
				alike++
			}
		}
		if alike > 1 {
			ties++
		}
		return ok
	})
	if below < 50 || ties < 50 {
		t.Error(below, ties)
	}
}

// P4.6: the month of the cheapest class.
func TestMonthByWords(t *testing.T) {
	later := 0
	eachTerms(t, 300, func(y api.Terms, c *rand.Rand) bool {
		l := anyDays(c, y)
		l[c.Intn(len(l))] = anyDay(c, y)
		month, best, least := -1, api.Class{}, 0
		for i, d := range l {
			if x, n := cheapestBy(y, d); i == 0 || n < least {
				month, best, least = y.Due.Lo+i, x, n
			}
		}
		if month > y.Due.Lo {
			later++
		}
		m, x, n, e := terms.Month(y, l)
		return m == month && x == best && n == least && e == api.OK
	})
	if later < 100 {
		t.Error(later)
	}
}
