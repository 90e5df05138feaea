package box

import (
	"slices"

	"middling/api"
)

// Why returns the fewest matches that prove a span (P1.6).
func Why(r api.Room, box, month int) ([]int, api.Errno) {
	x, e := claimed(r, box, month)
	if e != api.OK {
		return nil, e
	}
	l, _ := fewest(numbers(r), len(r.Matches), x.proves)
	return l, api.OK
}

// Rests returns the matches on which a span rests (P1.6).
func Rests(r api.Room, box, month int) ([]int, api.Errno) {
	x, e := claimed(r, box, month)
	if e != api.OK {
		return nil, e
	}
	var l []int
	for i, n := range numbers(r) {
		others := slices.Delete(numbers(r), i, i+1)
		if !x.proves(others) {
			l = append(l, n)
		}
	}
	return l, api.OK
}

// Wrong returns the fewest matches that must be false (P1.6).
func Wrong(r api.Room) ([]int, api.Errno) {
	if e := Check(r); e != api.OK {
		return nil, e
	}
	c := draw(r)
	l, ok := fewest(numbers(r), api.MaxFalse, func(out []int) bool {
		return c.without(func(m api.Match) bool { return slices.Contains(out, m.Number) }).can()
	})
	if !ok {
		return nil, api.ErrMany
	}
	return l, api.OK
}

// claim is what a place has yellowed by all matches of a chart.
type claim struct {
	chart
	at   place
	span api.Span
}

// claimed returns what a box has yellowed in a month as a claim.
func claimed(r api.Room, box, month int) (claim, api.Errno) {
	c, e := open(r, about{boxes: []int{box}, months: []int{month}})
	if e != api.OK {
		return claim{}, e
	}
	p := place{box, month}
	return claim{c, p, c.yellow(p)}, api.OK
}

// proves reports whether some matches alone leave the span as it is.
func (x claim) proves(l []int) bool {
	alone := x.without(func(m api.Match) bool { return !slices.Contains(l, m.Number) })
	return alone.yellow(x.at) == x.span
}

// fewest returns the first list that is right, of at most so many things of l: the shortest one, then by their order.
func fewest[T any](l []T, most int, right func([]T) bool) ([]T, bool) {
	for n := range min(most, len(l)) + 1 {
		if x, ok := longer(nil, l, n, right); ok {
			return x, true
		}
	}
	return nil, false
}

// longer returns the first list that is right, of those that begin with head, and go on with n things of l.
func longer[T any](head, l []T, n int, right func([]T) bool) ([]T, bool) {
	if n == 0 {
		return head, right(head)
	}
	for i := range len(l) - n + 1 {
		next := append(slices.Clone(head), l[i])
		if x, ok := longer(next, l[i+1:], n-1, right); ok {
			return x, true
		}
	}
	return nil, false
}
