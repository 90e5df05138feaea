package paper

import (
	"slices"

	"middling/api"
	"middling/lists"
)

// pledge returns the one with a Number.
func (r register) pledge(number int) api.Pledge {
	return lists.Numbered(r.Pledges, number, numberOfPledge)
}

// pledgesOf returns the pledges of a paper.
func (r register) pledgesOf(paper int) []api.Pledge {
	return slices.DeleteFunc(slices.Clone(r.Pledges), func(x api.Pledge) bool { return x.Paper != paper })
}

// longest returns the term of a pledge, from its first day to its last one, in which all that it can have lie.
func longest(x api.Pledge) api.Span { return api.Span{Lo: x.From.Lo, Hi: x.Until.Hi} }

// terms returns all terms that a pledge can have.
func terms(x api.Pledge) []api.Span {
	var l []api.Span
	for first := x.From.Lo; first <= x.From.Hi; first++ {
		for last := max(first, x.Until.Lo); last <= x.Until.Hi; last++ {
			l = append(l, api.Span{Lo: first, Hi: last})
		}
	}
	return l
}

// shortest returns the terms that a pledge can have in which no other one lies: what is so of all days of a term is so of those of one of them.
func shortest(x api.Pledge) []api.Span {
	all := terms(x)
	return slices.DeleteFunc(slices.Clone(all), func(term api.Span) bool {
		return slices.ContainsFunc(all, func(other api.Span) bool {
			return other != term && lists.Within(term, other.Lo, other.Hi)
		})
	})
}

// begins returns the first day of a pledge, at least and at most.
func begins(x api.Pledge) api.Span {
	return api.Span{Lo: x.From.Lo, Hi: min(x.From.Hi, x.Until.Hi)}
}

// isGood tells what is known of whether a pledge is good.
func (r register) isGood(x api.Pledge) uint8 {
	so, not := false, false
	long, short := longest(x), shortest(x)
	for h := range r.histories(r.paper(x.Paper)) {
		so = so || slices.ContainsFunc(short, func(term api.Span) bool { return h.keeps(x.By, term) })
		not = not || !h.keeps(x.By, long)
	}
	return lists.Known(so, not)
}

// covering returns the pledges of a paper that can cover a day: each one can whatever the others do.
func (r register) covering(paper, day int) []api.Pledge {
	return slices.DeleteFunc(r.pledgesOf(paper), func(x api.Pledge) bool { return !lists.Within(longest(x), day) })
}

// since returns the first day on which a paper can be pledged twice: false if there is none.
func (r register) since(paper int) (int, bool) {
	for day := range r.Days {
		if len(r.covering(paper, day)) > 1 {
			return day, true
		}
	}
	return 0, false
}

// areApart reports whether pledges can have terms no two of which have a day in common, nor one of them with those that are taken.
func areApart(pledges []api.Pledge, taken ...api.Span) bool {
	if len(pledges) == 0 {
		return true
	}
	return slices.ContainsFunc(shortest(pledges[0]), func(term api.Span) bool {
		meets := func(other api.Span) bool { return term.Lo <= other.Hi && other.Lo <= term.Hi }
		return !slices.ContainsFunc(taken, meets) && areApart(pledges[1:], append(slices.Clone(taken), term)...)
	})
}

// isTwice tells what is known of whether a paper is pledged twice on some day.
func (r register) isTwice(paper int) uint8 {
	_, so := r.since(paper)
	return lists.Known(so, areApart(r.pledgesOf(paper)))
}

// banks returns the banks to which a pledge of a paper can cover a day, in increasing order.
func (r register) banks(paper, day int) []int {
	l := lists.Numbers(r.covering(paper, day), func(x api.Pledge) int { return x.Bank })
	slices.Sort(l)
	return slices.Compact(l)
}

// isBefore tells what is known of whether the first day of a pledge is before that of another one.
func isBefore(one, other api.Pledge) uint8 {
	a, b := begins(one), begins(other)
	return lists.Known(a.Lo < b.Hi, a.Hi >= b.Lo)
}
