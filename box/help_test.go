package box_test

import (
	"math/rand"
	"slices"

	"middling/api"
	"middling/box"
)

func ints(l ...int) []int { return l }

func span(lo, hi int) api.Span { return api.Span{Lo: lo, Hi: hi} }

func match(number, month, a, b, lo, hi int) api.Match {
	return api.Match{Number: number, Month: month, A: a, B: b, By: span(lo, hi)}
}

// example is the room of the chapter's examples, with other matches.
func example(l ...api.Match) api.Room {
	return api.Room{
		Months:  4,
		Step:    5,
		Ages:    []api.Span{span(0, 0), span(1, 4), span(2, 8), span(3, 12)},
		Boxes:   []api.Box{{Id: 1}, {Id: 2, Made: 1}},
		Matches: l,
	}
}

// first is the match of the chapter's examples, second the one that contradicts it.
func first() api.Match { return match(1, 2, 1, 2, 3, 5) }

func second() api.Match { return match(2, 3, 2, 1, 3, 9) }

// alike has three boxes of which little is known.
func alike(l ...api.Match) api.Room {
	return api.Room{
		Months:  3,
		Step:    2,
		Ages:    []api.Span{span(0, 9), span(0, 10), span(1, 11)},
		Boxes:   []api.Box{{Id: 3}, {Id: 5}, {Id: 8, Made: 1}},
		Matches: l,
	}
}

func same(a, b api.Room) bool {
	return a.Months == b.Months && a.Step == b.Step && slices.Equal(a.Ages, b.Ages) && slices.Equal(a.Boxes, b.Boxes) && slices.Equal(a.Matches, b.Matches)
}

func copied(r api.Room) api.Room {
	r.Ages, r.Boxes, r.Matches = slices.Clone(r.Ages), slices.Clone(r.Boxes), slices.Clone(r.Matches)
	return r
}

func numbers(r api.Room) []int {
	var l []int
	for _, m := range r.Matches {
		l = append(l, m.Number)
	}
	return l
}

// isThere reports whether a box is there in a month.
func isThere(b api.Box, month int) bool { return b.Made <= month }

// size is how large rooms by chance may be.
type size struct{ months, boxes, matches, points int }

func small() size { return size{3, 3, 4, 4} }

func large() size { return size{api.MaxMonths, api.MaxBoxes, api.MaxMatches, api.MaxPoints} }

// anyRoom returns a valid room by chance, which may have no truth.
func anyRoom(c *rand.Rand, s size) api.Room {
	r := api.Room{Months: 1 + c.Intn(s.months), Step: c.Intn(s.points/2 + 1)}
	r.Ages = anyAges(c, r.Months, s.points)
	id := 0
	for range max(c.Intn(s.boxes+1), c.Intn(s.boxes+1)) {
		id += 1 + c.Intn(3)
		r.Boxes = append(r.Boxes, api.Box{Id: id, Made: c.Intn(r.Months)})
	}
	number := 0
	for range max(c.Intn(s.matches+1), c.Intn(s.matches+1)) {
		number += 1 + c.Intn(3)
		if m, ok := anyMatch(c, r, s, number); ok {
			r.Matches = append(r.Matches, m)
		}
	}
	return r
}

// anyAges returns spans of ages by chance, most of them such that boxes get no less yellow.
func anyAges(c *rand.Rand, months, points int) []api.Span {
	var l []api.Span
	for range months {
		lo := c.Intn(points/2 + 1)
		l = append(l, span(lo, lo+c.Intn(points+1-lo)))
	}
	if c.Intn(8) == 0 {
		return l
	}
	for i := range l[1:] {
		l[i+1].Lo, l[i+1].Hi = max(l[i].Lo, l[i+1].Lo), max(l[i].Hi, l[i+1].Hi)
	}
	return l
}

// anyMatch returns a match by chance that is valid in a room, if there can be one.
func anyMatch(c *rand.Rand, r api.Room, s size, number int) (api.Match, bool) {
	if len(r.Boxes) < 2 {
		return api.Match{}, false
	}
	p := c.Perm(len(r.Boxes))
	a, b := r.Boxes[p[0]], r.Boxes[p[1]]
	since := max(a.Made, b.Made)
	lo := (c.Intn(2*s.points+1) - s.points) / 2
	return match(number, since+c.Intn(r.Months-since), a.Id, b.Id, lo, min(lo+c.Intn(s.points), s.points)), true
}

// trueRoom returns a room by chance that has a truth.
func trueRoom(c *rand.Rand, s size) api.Room {
	for {
		r := anyRoom(c, s)
		l, e := box.Wrong(r)
		if e != api.OK {
			continue
		}
		y, e := box.Strike(r, l)
		if e == api.OK {
			return y
		}
	}
}
