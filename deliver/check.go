package deliver

import (
	"slices"

	"middling/api"
	"middling/lists"
	"middling/terms"
)

// Check returns the error of a yard (P5.1).
func Check(y api.Yard) api.Errno {
	if !lists.Within(api.Span{Lo: 0, Hi: api.MaxMonth}, y.Month) || !hasValidDeals(y) || !hasValidWares(y) {
		return api.ErrYard
	}
	return api.OK
}

func hasValidDeals(y api.Yard) bool {
	if len(y.Deals) > api.MaxDeals || !lists.Rising(lists.Numbers(y.Deals, idOfDeal)) {
		return false
	}
	return !slices.ContainsFunc(y.Deals, func(d api.Deal) bool { return terms.Check(d.Terms) != api.OK })
}

func hasValidWares(y api.Yard) bool {
	if len(y.Wares) > api.MaxWares || !lists.Rising(lists.Numbers(y.Wares, idOfWare)) || !lists.Within(api.Span{Lo: 0, Hi: api.MaxPence}, lists.Numbers(y.Wares, penceOfWare)...) {
		return false
	}
	return !slices.ContainsFunc(y.Wares, func(x api.Ware) bool {
		return !lists.Part(x.Grades, 1, api.MaxGrade) || !lists.Part(x.Staples, 1, api.MaxStaple)
	})
}

func idOfDeal(d api.Deal) int { return d.Id }

func idOfWare(x api.Ware) int { return x.Id }

func penceOfWare(x api.Ware) int { return x.Pence }

// about is what a call is about: wares and deals, by their Ids, and plans.
type about struct {
	wares, deals []int
	plans        [][]int
}

// questions returns what a yard is asked, in order: each one relies on those before it.
func questions() [4]lists.Question[api.Yard, about] {
	return [4]lists.Question[api.Yard, about]{
		{So: isValid, E: api.ErrYard},
		{So: hasWares, E: api.ErrNone},
		{So: hasDeals, E: api.ErrNone},
		{So: areAllowed, E: api.ErrPlan},
	}
}

func isValid(y api.Yard, _ about) bool { return Check(y) == api.OK }

func hasWares(y api.Yard, x about) bool {
	return lists.Among(lists.Numbers(y.Wares, idOfWare), x.wares)
}

func hasDeals(y api.Yard, x about) bool {
	return lists.Among(lists.Numbers(y.Deals, idOfDeal), x.deals)
}

func areAllowed(y api.Yard, x about) bool {
	return !slices.ContainsFunc(x.plans, func(plan []int) bool {
		_, ok := lay(y).follow(plan)
		return !ok
	})
}

// asked returns the first error of a call (P5.1).
func asked(y api.Yard, x about) api.Errno {
	l := questions()
	return lists.Asked(y, x, l[:]...)
}

// open returns the table of a valid yard, or the first error of a call.
func open(y api.Yard, x about) (table, api.Errno) {
	if e := asked(y, x); e != api.OK {
		return table{}, e
	}
	return lay(y), api.OK
}

// told returns what is told of a valid yard, or the first error of a call.
func told[T any](y api.Yard, x about, tell func(table) T) (T, api.Errno) {
	t, e := open(y, x)
	return lists.Told(t, e, tell)
}

// valued returns the value that is told of a valid yard, or the first error of a call.
func valued(y api.Yard, x about, tell func(table) value) (bales, risks, pence int, e api.Errno) {
	v, e := told(y, x, tell)
	return v.bales, v.risks, v.pence, e
}
