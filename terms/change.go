package terms

import (
	"slices"

	"middling/api"
	"middling/lists"
)

// Step returns the terms with another number for a grade (P4.8).
func Step(t api.Terms, grade, pence int) (api.Terms, api.Errno) {
	if _, e := open(t, about{lots: []lot{{just(grade), anyStaple()}}}); e != api.OK {
		return api.Terms{}, e
	}
	t = copied(t)
	t.Grades[grade-1] = pence
	return ifValid(t)
}

// Rebase returns the terms with another base (P4.8).
func Rebase(t api.Terms, c api.Class) (api.Terms, api.Errno) {
	l := []lot{only(c)}
	o, e := open(t, about{lots: l, some: l})
	if e != api.OK {
		return api.Terms{}, e
	}
	t.Base, t.Price = c, o.value(c)
	t.Grades, t.Staples = from(t.Grades, c.Grade), from(t.Staples, c.Staple)
	return ifValid(t)
}

// from returns a new table, told from the grade, or the staple, that is now 0.
func from(table []int, base int) []int {
	return lists.Numbers(table, func(n int) int { return n - table[base-1] })
}

// ifValid returns terms, or the error if they are not valid.
func ifValid(t api.Terms) (api.Terms, api.Errno) {
	if e := Check(t); e != api.OK {
		return api.Terms{}, e
	}
	return t, api.OK
}

// Join returns the terms for the bales of both (P4.8).
func Join(t, u api.Terms) (api.Terms, api.Errno) {
	switch {
	case Check(t) != api.OK || Check(u) != api.OK:
		return api.Terms{}, api.ErrTerms
	case !areAlike(t, u):
		return api.Terms{}, api.ErrArg
	case t.Bales+u.Bales > api.MaxBales:
		return api.Terms{}, api.ErrFull
	}
	return withBales(t, t.Bales+u.Bales), api.OK
}

// areAlike reports whether terms differ in Bales alone, if they do.
func areAlike(t, u api.Terms) bool {
	numbers := func(t api.Terms) [4]int { return [4]int{t.Price, t.Worst, t.Short, t.Fee} }
	return t.Base == u.Base && t.Due == u.Due && numbers(t) == numbers(u) && slices.Equal(t.Grades, u.Grades) && slices.Equal(t.Staples, u.Staples)
}

// Split returns the terms for so many bales, and for the rest (P4.8).
func Split(t api.Terms, bales int) (a, b api.Terms, e api.Errno) {
	if e := Check(t); e != api.OK {
		return api.Terms{}, api.Terms{}, e
	}
	if !lists.Within(api.Span{Lo: 1, Hi: t.Bales - 1}, bales) {
		return api.Terms{}, api.Terms{}, api.ErrArg
	}
	return withBales(t, bales), withBales(t, t.Bales-bales), api.OK
}

// withBales returns new terms for so many bales.
func withBales(t api.Terms, bales int) api.Terms {
	t = copied(t)
	t.Bales = bales
	return t
}

func copied(t api.Terms) api.Terms {
	t.Grades, t.Staples = slices.Clone(t.Grades), slices.Clone(t.Staples)
	return t
}
