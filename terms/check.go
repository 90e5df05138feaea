package terms

import (
	"slices"

	"middling/api"
	"middling/lists"
)

// Check returns the error of terms (P4.1).
func Check(t api.Terms) api.Errno {
	if !hasClasses(t) || !hasNumbers(t) || !hasTables(t) || leastInvoice(t) < 1 {
		return api.ErrTerms
	}
	return api.OK
}

// hasClasses reports whether the base is a class that may be delivered, and whether Worst is a grade, and Short a staple.
func hasClasses(t api.Terms) bool {
	return lists.Within(anyGrade(), t.Base.Grade) && lists.Within(anyStaple(), t.Base.Staple) && lists.Within(api.Span{Lo: t.Base.Grade, Hi: api.MaxGrade}, t.Worst) && lists.Within(api.Span{Lo: 1, Hi: t.Base.Staple}, t.Short)
}

func hasNumbers(t api.Terms) bool {
	return lists.Within(api.Span{Lo: 1, Hi: api.MaxPence}, t.Price) && lists.Part(t.Due, 0, api.MaxMonth) && lists.Within(api.Span{Lo: 1, Hi: api.MaxBales}, t.Bales) && lists.Within(api.Span{Lo: 0, Hi: api.MaxFee}, t.Fee)
}

// hasTables reports whether no grade brings more than the one before it, no staple less, and the base, which is a class, neither more nor less than the price.
func hasTables(t api.Terms) bool {
	if !areTables(t.Grades, t.Staples) {
		return false
	}
	worstFirst := slices.Clone(t.Grades)
	slices.Reverse(worstFirst)
	return rising(worstFirst, t.Staples) == 2 && t.Grades[t.Base.Grade-1] == 0 && t.Staples[t.Base.Staple-1] == 0
}

// leastInvoice returns that of the worst and shortest class that may be delivered.
func leastInvoice(t api.Terms) int { return offer{t}.value(class(t.Worst, t.Short)) }

func areTables(grades, staples []int) bool {
	steps := api.Span{Lo: -api.MaxStep, Hi: api.MaxStep}
	return len(grades) == api.MaxGrade && len(staples) == api.MaxStaple && lists.Within(steps, grades...) && lists.Within(steps, staples...)
}

// rising returns how many tables fall nowhere.
func rising(tables ...[]int) int {
	n := 0
tables:
	for _, l := range tables {
		for at := range len(l) - 1 {
			if l[at+1] < l[at] {
				continue tables
			}
		}
		n++
	}
	return n
}

// isDay reports whether a day is valid: if the class that costs least costs no less than 0, none does.
func isDay(d api.Day) bool {
	return lists.Within(api.Span{Lo: 0, Hi: api.MaxPence}, d.Price) && areTables(d.Grades, d.Staples) && d.Price+slices.Min(d.Grades)+slices.Min(d.Staples) >= 0
}

func class(grade, staple int) api.Class { return api.Class{Grade: grade, Staple: staple} }

func anyGrade() api.Span { return api.Span{Lo: 1, Hi: api.MaxGrade} }

func anyStaple() api.Span { return api.Span{Lo: 1, Hi: api.MaxStaple} }

// lot is the classes that have one of some grades, and one of some staples.
type lot struct{ grades, staples api.Span }

// only returns the lot of one class.
func only(c api.Class) lot { return lot{just(c.Grade), just(c.Staple)} }

func just(n int) api.Span { return api.Span{Lo: n, Hi: n} }

func (l lot) size() int { return (l.grades.Hi - l.grades.Lo + 1) * (l.staples.Hi - l.staples.Lo + 1) }

// about is what a call is about: days, lots, months, and lots of which some class must be one that may be delivered.
type about struct {
	days   []api.Day
	lots   []lot
	months []int
	some   []lot
}

// questions returns what terms are asked, in order: each one relies on those before it.
func questions() [6]lists.Question[api.Terms, about] {
	return [6]lists.Question[api.Terms, about]{
		{So: areValid, E: api.ErrTerms},
		{So: areDays, E: api.ErrDay},
		{So: areGrades, E: api.ErrGrade},
		{So: areStaples, E: api.ErrStaple},
		{So: areMonths, E: api.ErrMonth},
		{So: allowSome, E: api.ErrNone},
	}
}

func areValid(t api.Terms, _ about) bool { return Check(t) == api.OK }

func areDays(_ api.Terms, x about) bool {
	return !slices.ContainsFunc(x.days, func(d api.Day) bool { return !isDay(d) })
}

func areGrades(_ api.Terms, x about) bool {
	return !slices.ContainsFunc(x.lots, func(l lot) bool { return !lists.Part(l.grades, 1, api.MaxGrade) })
}

func areStaples(_ api.Terms, x about) bool {
	return !slices.ContainsFunc(x.lots, func(l lot) bool { return !lists.Part(l.staples, 1, api.MaxStaple) })
}

func areMonths(_ api.Terms, x about) bool {
	return lists.Within(api.Span{Lo: 0, Hi: api.MaxMonth}, x.months...)
}

func allowSome(t api.Terms, x about) bool {
	return !slices.ContainsFunc(x.some, func(l lot) bool { return offer{t}.count(l) == 0 })
}

// open returns the offer of valid terms, or the first error of a call (P4.1).
func open(t api.Terms, x about) (offer, api.Errno) {
	l := questions()
	if e := lists.Asked(t, x, l[:]...); e != api.OK {
		return offer{}, e
	}
	return offer{t}, api.OK
}

// told returns what is told of valid terms, or the first error of a call.
func told[T any](t api.Terms, x about, tell func(offer) T) (T, api.Errno) {
	o, e := open(t, x)
	return lists.Told(o, e, tell)
}
