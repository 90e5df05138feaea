package stack

import (
	"slices"

	"middling/api"
	"middling/lists"
)

// Check returns the error of a warehouse (P8.1).
func Check(w api.Warehouse) api.Errno {
	// Each one relies on those before it: a bale that is somebody's is an Id, and only valid stacks and moves tell where bales have been.
	if !hasValidOwners(w) || !hasValidStacks(w) || !hasValidMoves(w) || !hasValidRain(w) || !hasValidFound(w) {
		return api.ErrHouse
	}
	return api.OK
}

func hasValidOwners(w api.Warehouse) bool {
	return lists.Rising(owned(w)) && areWithin(api.MaxId, lists.Numbers(w.Owners, func(x api.Owned) int { return x.Owner })...)
}

func hasValidStacks(w api.Warehouse) bool {
	if !areWithin(api.MaxStacks, len(w.Stacks)) || !lists.Rising(lists.Numbers(w.Stacks, idOf)) {
		return false
	}
	var bales []int
	for _, x := range w.Stacks {
		if !areWithin(api.MaxRows, x.Row) || len(x.Bales) > api.MaxHigh {
			return false
		}
		bales = append(bales, x.Bales...)
	}
	slices.Sort(bales)
	return lists.Rising(bales) && lists.Among(owned(w), bales)
}

func hasValidMoves(w api.Warehouse) bool {
	if len(w.Moves) > api.MaxMoves || !lists.Among(owned(w), lists.Numbers(w.Moves, baleOf)) {
		return false
	}
	days := lists.Numbers(w.Moves, dayOf)
	if !areWithin(api.MaxDays, days...) || !slices.IsSorted(days) {
		return false
	}
	for i, m := range w.Moves {
		f := floor{w}
		f.Moves = w.Moves[:i]
		if !f.allows(m) {
			return false
		}
	}
	return true
}

func hasValidRain(w api.Warehouse) bool {
	return lists.Rising(w.Rain) && areWithin(api.MaxDays, w.Rain...)
}

func hasValidFound(w api.Warehouse) bool {
	if len(w.Found) > api.MaxFound || !lists.Rising(lists.Numbers(w.Found, numberOf)) {
		return false
	}
	return lists.Among(floor{w}.been(), lists.Numbers(w.Found, func(x api.Found) int { return x.Bale }))
}

// areWithin reports whether numbers are from 1 to a greatest one.
func areWithin(most int, numbers ...int) bool {
	return lists.Within(api.Span{Lo: 1, Hi: most}, numbers...)
}

// owned returns the bales of which is told whose they are.
func owned(w api.Warehouse) []int {
	return lists.Numbers(w.Owners, func(x api.Owned) int { return x.Bale })
}

func idOf(x api.Stack) int { return x.Id }

func baleOf(m api.Move) int { return m.Bale }

func dayOf(m api.Move) int { return m.Day }

func numberOf(x api.Found) int { return x.Number }

// about is what a call is about: days, what was seen, bales that have been in the house, bales that are to be got out, and whether there has to be a truth.
type about struct {
	days  []int
	seen  []api.Seen
	bales []int
	out   []int
	truth bool
}

// questions returns what a warehouse is asked, in order: each one relies on those before it.
func questions() [6]lists.Question[api.Warehouse, about] {
	return [6]lists.Question[api.Warehouse, about]{
		{So: isValid, E: api.ErrHouse},
		{So: areDays, E: api.ErrArg},
		{So: canBeSeen, E: api.ErrSeen},
		{So: haveBeen, E: api.ErrHeld},
		{So: areThere, E: api.ErrHeld},
		{So: hasTruth, E: api.ErrBad},
	}
}

func isValid(w api.Warehouse, _ about) bool { return Check(w) == api.OK }

func areDays(_ api.Warehouse, x about) bool {
	return lists.Within(api.Span{Lo: 0, Hi: api.MaxDays}, x.days...)
}

func canBeSeen(w api.Warehouse, x about) bool {
	ids, bales := lists.Numbers(w.Stacks, idOf), append(floor{w}.been(), 0)
	return !slices.ContainsFunc(x.seen, func(y api.Seen) bool {
		return !slices.Contains(ids, y.Stack) || !areWithin(api.MaxHigh, y.High) || !slices.Contains(bales, y.Bale)
	})
}

func haveBeen(w api.Warehouse, x about) bool { return lists.Among(floor{w}.been(), x.bales) }

func areThere(w api.Warehouse, x about) bool {
	there := floor{w}.there(api.MaxDays)
	return lists.Rising(x.out) && !slices.ContainsFunc(x.out, func(bale int) bool { return !there[bale] })
}

func hasTruth(w api.Warehouse, x about) bool { return !x.truth || floor{w}.can() }

// open returns the floor of a valid warehouse, or the first error of a call (P8.1).
func open(w api.Warehouse, x about) (floor, api.Errno) {
	l := questions()
	if e := lists.Asked(w, x, l[:]...); e != api.OK {
		return floor{}, e
	}
	return floor{w}, api.OK
}

// told returns what is told of a valid warehouse, or the first error of a call.
func told[T any](w api.Warehouse, x about, tell func(floor) T) (T, api.Errno) {
	f, e := open(w, x)
	return lists.Told(f, e, tell)
}

// toldIf returns what is told of a valid warehouse, or the first error of a call: the last one if there is nothing to tell.
func toldIf[T any](w api.Warehouse, x about, tell func(floor) (T, bool), last api.Errno) (T, api.Errno) {
	f, e := open(w, x)
	return lists.ToldIf(f, e, tell, last)
}
