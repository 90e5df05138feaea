package river

import (
	"slices"

	"middling/api"
	"middling/lists"
	"middling/stack"
)

// Check returns the error of a flood (P10.1).
func Check(f api.Flood) api.Errno {
	stacks, e := stack.At(f.House, api.MaxDays)
	if e != api.OK || !hasValidLevels(f) || len(f.Gangs) > api.MaxGangs || !areGangs(f.Gangs) || !hasValidWorths(f, stacks) || !hasValidReports(f) {
		return api.ErrFlood
	}
	return api.OK
}

func hasValidLevels(f api.Flood) bool {
	if len(f.Levels) != api.MaxLevels || !areFrom(0, api.MaxGap, f.Gap) {
		return false
	}
	return !slices.ContainsFunc(f.Levels, func(s api.Span) bool { return !lists.Part(s, 0, api.MaxMinute) })
}

// areGangs reports whether gangs are valid, however many they are.
func areGangs(l []api.Gang) bool {
	return lists.Rising(lists.Numbers(l, idOf)) && !slices.ContainsFunc(l, func(g api.Gang) bool {
		return !areFrom(0, api.MaxMinute, g.Comes) || !areFrom(1, api.MaxTakes, g.Takes)
	})
}

func hasValidWorths(f api.Flood, stacks []api.Stack) bool {
	bales := lists.Numbers(f.Worths, baleOf)
	pence := lists.Numbers(f.Worths, func(x api.Worth) int { return x.Pence })
	return lists.Rising(bales) && areFrom(1, api.MaxPence, pence...) && !slices.ContainsFunc(stacks, func(x api.Stack) bool {
		return !lists.Among(bales, x.Bales)
	})
}

func hasValidReports(f api.Flood) bool {
	return len(f.Reports) <= api.MaxReports && lists.Rising(lists.Numbers(f.Reports, numberOf)) && !slices.ContainsFunc(f.Reports, func(x api.Report) bool {
		return !areFrom(1, api.MaxLevels, x.Level) || !areFrom(0, api.MaxMinute, x.Minute)
	})
}

// areFrom reports whether numbers are from a least one to a greatest one.
func areFrom(least, most int, numbers ...int) bool {
	return lists.Within(api.Span{Lo: least, Hi: most}, numbers...)
}

func idOf(g api.Gang) int { return g.Id }

func baleOf(x api.Worth) int { return x.Bale }

func numberOf(x api.Report) int { return x.Number }

// about is what a call is about: levels, bales that are in the house at last, minutes, what has gone, orders, gangs, and whether there has to be a truth without all reports, or with them.
type about struct {
	levels, bales, minutes []int
	gone, orders           [][]int
	gangs                  []api.Gang
	free, truth            bool
}

// questions returns what a valid flood is asked, in order.
func questions() [8]lists.Question[rescue, about] {
	return [8]lists.Question[rescue, about]{
		{So: areLevels, E: api.ErrLevel},
		{So: areThere, E: api.ErrNone},
		{So: areMinutes, E: api.ErrMinute},
		{So: canHaveGone, E: api.ErrGone},
		{So: areOrders, E: api.ErrTaken},
		{So: canCome, E: api.ErrGang},
		{So: isFree, E: api.ErrNone},
		{So: hasTruth, E: api.ErrBad},
	}
}

func areLevels(_ rescue, x about) bool { return areFrom(1, api.MaxLevels, x.levels...) }

func areThere(r rescue, x about) bool {
	for _, bale := range x.bales {
		if _, is := r.spots[bale]; !is {
			return false
		}
	}
	return true
}

func areMinutes(_ rescue, x about) bool { return areFrom(0, api.MaxMinute, x.minutes...) }

func canHaveGone(r rescue, x about) bool {
	return !slices.ContainsFunc(x.gone, func(l []int) bool { return !r.allows(l) })
}

func areOrders(r rescue, x about) bool {
	return !slices.ContainsFunc(x.orders, func(order []int) bool { return !r.takes(order) })
}

func canCome(r rescue, x about) bool {
	return !slices.ContainsFunc(x.gangs, func(g api.Gang) bool { return !areGangs(lists.Put(r.Gangs, g, idOf)) })
}

func isFree(r rescue, x about) bool { return !x.free || r.spares(r.Reports) }

func hasTruth(r rescue, x about) bool { return !x.truth || r.comes() }

// open returns the rescue of a valid flood, or the first error of a call (P10.1).
func open(f api.Flood, x about) (rescue, api.Errno) {
	if e := Check(f); e != api.OK {
		return rescue{}, e
	}
	r := begin(f)
	l := questions()
	return r, lists.Asked(r, x, l[:]...)
}

// told returns what is told of a valid flood, or the first error of a call.
func told[T any](f api.Flood, x about, tell func(rescue) T) (T, api.Errno) {
	r, e := open(f, x)
	return lists.Told(r, e, tell)
}
