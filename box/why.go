package box

import (
	"slices"

	"middling/api"
	"middling/lists"
)

// Why returns the fewest matches that prove a span (P1.6).
func Why(r api.Room, box, month int) ([]int, api.Errno) {
	x, e := claimed(r, box, month)
	if e != api.OK {
		return nil, e
	}
	l, _ := lists.Fewest(lists.Numbers(r.Matches, number), len(r.Matches), x.proves)
	return l, api.OK
}

// Rests returns the matches on which a span rests (P1.6).
func Rests(r api.Room, box, month int) ([]int, api.Errno) {
	x, e := claimed(r, box, month)
	if e != api.OK {
		return nil, e
	}
	var l []int
	for i, n := range lists.Numbers(r.Matches, number) {
		others := slices.Delete(lists.Numbers(r.Matches, number), i, i+1)
		if !x.proves(others) {
			l = append(l, n)
		}
	}
	return l, api.OK
}

// Wrong returns the fewest matches that must be false (P1.6).
func Wrong(r api.Room) ([]int, api.Errno) {
	if e := Check(r); e != api.OK {
		return nil, e
	}
	c := draw(r)
	l, ok := lists.Fewest(lists.Numbers(r.Matches, number), api.MaxFalse, func(out []int) bool {
		return c.without(func(m api.Match) bool { return slices.Contains(out, m.Number) }).can()
	})
	if !ok {
		return nil, api.ErrMany
	}
	return l, api.OK
}

// claim is what a place has yellowed by all matches of a chart.
type claim struct {
	chart
	at   place
	span api.Span
}

// claimed returns what a box has yellowed in a month as a claim.
func claimed(r api.Room, box, month int) (claim, api.Errno) {
	c, e := open(r, about{boxes: []int{box}, months: []int{month}})
	if e != api.OK {
		return claim{}, e
	}
	p := place{box, month}
	return claim{c, p, c.yellow(p)}, api.OK
}

// proves reports whether some matches alone leave the span as it is.
func (x claim) proves(l []int) bool {
	alone := x.without(func(m api.Match) bool { return !slices.Contains(l, m.Number) })
	return alone.yellow(x.at) == x.span
}
