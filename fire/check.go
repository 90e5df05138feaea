package fire

import (
	"cmp"
	"slices"

	"middling/api"
	"middling/lists"
	"middling/paper"
	"middling/stack"
)

// maxSparks is by how much the last minute in which a fire can have begun is later than the first one, at most.
const maxSparks = 5

// Check returns the error of a blaze (P11.1).
func Check(b api.Blaze) api.Errno {
	if stack.Check(b.House) != api.OK || !hasValidBooks(b) || !hasValidBegins(b) || !hasValidGaps(b) || !hasValidGlances(b) {
		return api.ErrBlaze
	}
	return api.OK
}

func hasValidBooks(b api.Blaze) bool {
	if paper.Check(b.Books) != api.OK {
		return false
	}
	bales := lists.Numbers(b.Books.Papers, baleOf)
	slices.Sort(bales)
	return lists.Rising(bales) && areFrom(0, min(api.MaxDays, b.Books.Days-1), b.Day)
}

func hasValidBegins(b api.Blaze) bool {
	return len(b.Begins) > 0 && lists.Rising(b.Begins) && areStacksOf(b, b.Begins...) && isShort(b.Start, api.MaxSpark, maxSparks)
}

func hasValidGaps(b api.Blaze) bool {
	if len(b.Gaps) > api.MaxGaps {
		return false
	}
	var last api.Gap
	for _, x := range b.Gaps {
		if cmp.Or(cmp.Compare(last.A, x.A), cmp.Compare(last.B, x.B)) >= 0 || x.A >= x.B || !areStacksOf(b, x.A, x.B) || !isShort(x.Minutes, api.MaxSlow, api.MaxSlack) {
			return false
		}
		last = x
	}
	return true
}

func hasValidGlances(b api.Blaze) bool {
	return len(b.Glances) <= api.MaxGlances && lists.Rising(lists.Numbers(b.Glances, numberOf)) && !slices.ContainsFunc(b.Glances, func(x api.Glance) bool {
		return !areStacksOf(b, x.Stack) || !areFrom(0, api.MaxSpark, x.Minute)
	})
}

// isShort reports whether a span has numbers, from 0 to a greatest one, the last one by at most so much above the first one.
func isShort(s api.Span, most, above int) bool {
	return lists.Part(s, 0, most) && s.Hi-s.Lo <= above
}

// areStacksOf reports whether there are stacks with these Ids.
func areStacksOf(b api.Blaze, ids ...int) bool {
	return lists.Among(lists.Numbers(b.House.Stacks, idOf), ids)
}

// areFrom reports whether numbers are from a least one to a greatest one.
func areFrom(least, most int, numbers ...int) bool {
	return lists.Within(api.Span{Lo: least, Hi: most}, numbers...)
}

func idOf(x api.Stack) int { return x.Id }

func baleOf(x api.Paper) int { return x.Bale }

func numberOf(x api.Glance) int { return x.Number }

// about is what a call is about: stacks, by their Ids, minutes, and whether there has to be a truth.
type about struct {
	stacks, minutes []int
	truth           bool
}

// questions returns what a valid blaze is asked, in order.
func questions() [3]lists.Question[scene, about] {
	return [3]lists.Question[scene, about]{
		{So: areStacks, E: api.ErrStack},
		{So: areMinutes, E: api.ErrClock},
		{So: hasTruth, E: api.ErrBad},
	}
}

func areStacks(s scene, x about) bool { return areStacksOf(s.Blaze, x.stacks...) }

func areMinutes(_ scene, x about) bool { return areFrom(0, api.MaxSpark, x.minutes...) }

func hasTruth(s scene, x about) bool { return !x.truth || s.can() }

// open returns the scene of a valid blaze, or the first error of a call (P11.1).
func open(b api.Blaze, x about) (scene, api.Errno) {
	if e := Check(b); e != api.OK {
		return scene{}, e
	}
	s := begin(b)
	l := questions()
	return s, lists.Asked(s, x, l[:]...)
}

// told returns what is told of a valid blaze, or the first error of a call.
func told[T any](b api.Blaze, x about, tell func(scene) T) (T, api.Errno) {
	s, e := open(b, x)
	return lists.Told(s, e, tell)
}

// toldIf returns what is told of a valid blaze, or the first error of a call: the last one if there is nothing to tell.
func toldIf[T any](b api.Blaze, x about, tell func(scene) (T, bool), last api.Errno) (T, api.Errno) {
	s, e := open(b, x)
	return lists.ToldIf(s, e, tell, last)
}
