package mill

import (
	"slices"

	"middling/api"
	"middling/core"
	"middling/lists"
)

// Check returns the error of a mill (P9.1).
func Check(m api.Mill) api.Errno {
	if !lists.Within(api.Span{Lo: 1, Hi: api.MaxLots}, m.Lots) || !lists.Within(api.Span{Lo: 2, Hi: api.MaxSize}, m.Size) || !hasValidCottons(m) {
		return api.ErrMill
	}
	return api.OK
}

func hasValidCottons(m api.Mill) bool {
	if len(m.Cottons) > api.MaxCottons || !lists.Rising(lists.Numbers(m.Cottons, idOf)) {
		return false
	}
	return !slices.ContainsFunc(m.Cottons, func(x api.Cotton) bool {
		return core.Check(x.Bale) != api.OK || !lists.Within(api.Span{Lo: 1, Hi: api.MaxLength}, x.Length) || !lists.Within(api.Span{Lo: 1, Hi: api.MaxStrength}, x.Strength)
	})
}

func idOf(x api.Cotton) int { return x.Bale.Id }

func lengthOf(x api.Cotton) int { return x.Length }

func strengthOf(x api.Cotton) int { return x.Strength }

// about is what a call is about: plans, whether there has to be an allowed one, and how far lengths may differ.
type about struct {
	plans [][]int
	some  bool
	far   []int
}

// questions returns what a valid mill is asked, in order.
func questions() [3]lists.Question[table, about] {
	return [3]lists.Question[table, about]{
		{So: areAllowed, E: api.ErrSplit},
		{So: hasSome, E: api.ErrFew},
		{So: areFar, E: api.ErrArg},
	}
}

func areAllowed(t table, x about) bool {
	return !slices.ContainsFunc(x.plans, func(plan []int) bool { return !t.allows(plan) })
}

func hasSome(t table, x about) bool { return !x.some || t.hasPlan() }

func areFar(_ table, x about) bool {
	return !slices.ContainsFunc(x.far, func(n int) bool { return n < 0 })
}

// open returns the table of a valid mill, or the first error of a call (P9.1).
func open(m api.Mill, x about) (table, api.Errno) {
	if e := Check(m); e != api.OK {
		return table{}, e
	}
	// A bale may have many truths: whether it is fit is asked once for all that follows.
	t := lay(m)
	l := questions()
	return t, lists.Asked(t, x, l[:]...)
}

// told returns what is told of a valid mill, or the first error of a call.
func told[T any](m api.Mill, x about, tell func(table) T) (T, api.Errno) {
	t, e := open(m, x)
	return lists.Told(t, e, tell)
}

// measured returns the unevenness that is told of a valid mill, or the first error of a call.
func measured(m api.Mill, x about, tell func(table) uneven) (length, strength int, e api.Errno) {
	u, e := told(m, x, tell)
	return u.length, u.strength, e
}
