package box

import (
	"slices"

	"middling/api"
)

// Check returns the error of a room (P1.1).
func Check(r api.Room) api.Errno {
	if !hasAges(r) || !hasValidBoxes(r) || !hasValidMatches(r) {
		return api.ErrRoom
	}
	return api.OK
}

func hasAges(r api.Room) bool {
	if !within(api.Span{Lo: 1, Hi: api.MaxMonths}, r.Months) || !within(anyPoints(), r.Step) || len(r.Ages) != r.Months {
		return false
	}
	for _, s := range r.Ages {
		if s.Lo > s.Hi || !within(anyPoints(), s.Lo, s.Hi) {
			return false
		}
	}
	return true
}

func hasValidBoxes(r api.Room) bool {
	if len(r.Boxes) > api.MaxBoxes || !rising(ids(r)) {
		return false
	}
	for _, b := range r.Boxes {
		if !within(anyMonth(r), b.Made) {
			return false
		}
	}
	return true
}

func hasValidMatches(r api.Room) bool {
	if len(r.Matches) > api.MaxMatches || !rising(numbers(r)) {
		return false
	}
	either := api.Span{Lo: -api.MaxPoints, Hi: api.MaxPoints}
	for _, m := range r.Matches {
		if m.A == m.B || m.By.Lo > m.By.Hi || !within(either, m.By.Lo, m.By.Hi) {
			return false
		}
		if x := (about{boxes: []int{m.A, m.B}, months: []int{m.Month}}); !hasBoxes(r, x) || !areThere(r, x) {
			return false
		}
	}
	return true
}

// within reports whether numbers are in a span.
func within(s api.Span, numbers ...int) bool {
	for _, n := range numbers {
		if n < s.Lo || n > s.Hi {
			return false
		}
	}
	return true
}

// rising reports whether numbers are in increasing order, no one twice, each from 1 to MaxId.
func rising(l []int) bool {
	last := 0
	for _, n := range l {
		if n <= last {
			return false
		}
		last = n
	}
	return last <= api.MaxId
}

func anyPoints() api.Span { return api.Span{Lo: 0, Hi: api.MaxPoints} }

func anyMonth(r api.Room) api.Span { return api.Span{Lo: 0, Hi: r.Months - 1} }

func ids(r api.Room) []int {
	var l []int
	for _, b := range r.Boxes {
		l = append(l, b.Id)
	}
	return l
}

func numbers(r api.Room) []int {
	var l []int
	for _, m := range r.Matches {
		l = append(l, m.Number)
	}
	return l
}

// about is what a call is about: boxes, by their Ids, and months, if it has any.
type about struct{ boxes, months []int }

// question is what a room is asked before it answers, and the error if it is not so.
type question struct {
	so func(r api.Room, x about) bool
	e  api.Errno
}

// questions returns what a room is asked, in order: each one relies on those before it.
func questions() [4]question {
	return [4]question{
		{isValid, api.ErrRoom},
		{hasBoxes, api.ErrNone},
		{areThere, api.ErrThere},
		{hasTruth, api.ErrBad},
	}
}

func isValid(r api.Room, _ about) bool { return Check(r) == api.OK }

func hasBoxes(r api.Room, x about) bool {
	for _, id := range x.boxes {
		if !slices.ContainsFunc(r.Boxes, func(b api.Box) bool { return b.Id == id }) {
			return false
		}
	}
	return true
}

func areThere(r api.Room, x about) bool {
	for _, m := range x.months {
		late := func(b api.Box) bool { return b.Made > m && slices.Contains(x.boxes, b.Id) }
		if !within(anyMonth(r), m) || slices.ContainsFunc(r.Boxes, late) {
			return false
		}
	}
	return true
}

func hasTruth(r api.Room, _ about) bool { return draw(r).can() }

// open returns the chart of a room that has a truth, or the first error of a call (P1.1).
func open(r api.Room, x about) (chart, api.Errno) {
	for _, q := range questions() {
		if !q.so(r, x) {
			return chart{}, q.e
		}
	}
	return draw(r), api.OK
}
