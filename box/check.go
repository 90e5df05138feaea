package box

import (
	"slices"

	"middling/api"
	"middling/lists"
)

// Check returns the error of a room (P1.1).
func Check(r api.Room) api.Errno {
	if !hasAges(r) || !hasValidBoxes(r) || !hasValidMatches(r) {
		return api.ErrRoom
	}
	return api.OK
}

func hasAges(r api.Room) bool {
	if !lists.Within(api.Span{Lo: 1, Hi: api.MaxMonths}, r.Months) || !lists.Within(anyPoints(), r.Step) || len(r.Ages) != r.Months {
		return false
	}
	for _, s := range r.Ages {
		if !lists.Part(s, 0, api.MaxPoints) {
			return false
		}
	}
	return true
}

func hasValidBoxes(r api.Room) bool {
	if len(r.Boxes) > api.MaxBoxes || !lists.Rising(lists.Numbers(r.Boxes, id)) {
		return false
	}
	for _, b := range r.Boxes {
		if !lists.Within(anyMonth(r), b.Made) {
			return false
		}
	}
	return true
}

func hasValidMatches(r api.Room) bool {
	if len(r.Matches) > api.MaxMatches || !lists.Rising(lists.Numbers(r.Matches, number)) {
		return false
	}
	for _, m := range r.Matches {
		if m.A == m.B || !lists.Part(m.By, -api.MaxPoints, api.MaxPoints) {
			return false
		}
		if x := (about{boxes: []int{m.A, m.B}, months: []int{m.Month}}); !hasBoxes(r, x) || !areThere(r, x) {
			return false
		}
	}
	return true
}

func anyPoints() api.Span { return api.Span{Lo: 0, Hi: api.MaxPoints} }

func anyMonth(r api.Room) api.Span { return api.Span{Lo: 0, Hi: r.Months - 1} }

func id(b api.Box) int { return b.Id }

func number(m api.Match) int { return m.Number }

// about is what a call is about: boxes, by their Ids, and months, if it has any.
type about struct{ boxes, months []int }

// questions returns what a room is asked before it answers, in order: each one relies on those before it.
func questions() [4]lists.Question[api.Room, about] {
	return [4]lists.Question[api.Room, about]{
		{So: isValid, E: api.ErrRoom},
		{So: hasBoxes, E: api.ErrNone},
		{So: areThere, E: api.ErrThere},
		{So: hasTruth, E: api.ErrBad},
	}
}

func isValid(r api.Room, _ about) bool { return Check(r) == api.OK }

func hasBoxes(r api.Room, x about) bool {
	return lists.Among(lists.Numbers(r.Boxes, id), x.boxes)
}

func areThere(r api.Room, x about) bool {
	for _, m := range x.months {
		late := func(b api.Box) bool { return b.Made > m && slices.Contains(x.boxes, b.Id) }
		if !lists.Within(anyMonth(r), m) || slices.ContainsFunc(r.Boxes, late) {
			return false
		}
	}
	return true
}

func hasTruth(r api.Room, _ about) bool { return draw(r).can() }

// open returns the chart of a room that has a truth, or the first error of a call (P1.1).
func open(r api.Room, x about) (chart, api.Errno) {
	l := questions()
	if e := lists.Asked(r, x, l[:]...); e != api.OK {
		return chart{}, e
	}
	return draw(r), api.OK
}
