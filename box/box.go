// Package box is layer 1: see shared/doc/01-box.md.
package box

import (
	"slices"

	"middling/api"
	"middling/lists"
)

// Can reports whether there is a truth (P1.2).
func Can(r api.Room) (bool, api.Errno) {
	if e := Check(r); e != api.OK {
		return false, e
	}
	return draw(r).can(), api.OK
}

// Yellow returns by how much a box has yellowed (P1.2).
func Yellow(r api.Room, box, month int) (api.Span, api.Errno) {
	c, e := open(r, about{boxes: []int{box}, months: []int{month}})
	if e != api.OK {
		return api.Span{}, e
	}
	return c.yellow(place{box, month}), api.OK
}

// Differ returns what two boxes differ by (P1.2).
func Differ(r api.Room, a, b, month int) (api.Span, api.Errno) {
	c, e := open(r, about{boxes: []int{a, b}, months: []int{month}})
	if e != api.OK {
		return api.Span{}, e
	}
	if a == b {
		return api.Span{}, api.ErrArg
	}
	return c.differ(place{a, month}, place{b, month}), api.OK
}

// Known reports whether a box has yellowed by so much (P1.3).
func Known(r api.Room, box, month, points int) (uint8, api.Errno) {
	s, e := Yellow(r, box, month)
	if e != api.OK {
		return 0, e
	}
	return lists.Known(s.Hi >= points, s.Lo < points), api.OK
}

// Order reports whether a box is as yellow as another one (P1.3).
func Order(r api.Room, a, b, month int) (uint8, api.Errno) {
	s, e := Differ(r, a, b, month)
	if e != api.OK {
		return 0, e
	}
	return lists.Known(s.Hi >= 0, s.Lo < 0), api.OK
}

// Perhaps returns since when a box may have yellowed by so much (P1.4).
func Perhaps(r api.Room, box, points int) (int, api.Errno) {
	return since(r, box, func(s api.Span) bool { return s.Hi >= points })
}

// Surely returns since when a box surely has yellowed by so much (P1.4).
func Surely(r api.Room, box, points int) (int, api.Errno) {
	return since(r, box, func(s api.Span) bool { return s.Lo >= points })
}

// since returns the first month in which what a box has yellowed is so.
func since(r api.Room, box int, so func(api.Span) bool) (int, api.Errno) {
	c, e := open(r, about{boxes: []int{box}})
	return lists.ToldIf(c, e, func(c chart) (int, bool) { return c.first(box, so) }, api.ErrNone)
}

// Due returns when boxes may be too yellow, and which (P1.5).
func Due(r api.Room, points int) (month int, boxes []int, e api.Errno) {
	c, e := open(r, about{})
	if e != api.OK {
		return 0, nil, e
	}
	late := map[int][]int{}
	for _, b := range c.Boxes {
		m, ok := c.first(b.Id, func(s api.Span) bool { return s.Hi > points })
		if ok {
			late[m] = append(late[m], b.Id)
		}
	}
	for m := range c.Months {
		if l := late[m]; len(l) > 0 {
			return m, l, api.OK
		}
	}
	return 0, nil, api.ErrNone
}

// Fresh returns the boxes that may be the least yellow (P1.5).
func Fresh(r api.Room, month int) ([]int, api.Errno) {
	c, e := open(r, about{months: []int{month}})
	if e != api.OK {
		return nil, e
	}
	there := c.there(month)
	// Pairs are enough: bounds by which one box is as fresh as each other one all end
	// at its place, so a circle of bounds that cannot be needs just one of them.
	staler := func(a int) bool {
		return slices.ContainsFunc(there, func(b int) bool {
			return c.differ(place{a, month}, place{b, month}).Lo > 0
		})
	}
	return slices.DeleteFunc(slices.Clone(there), staler), api.OK
}

// Ask returns the boxes of whose difference the least is known (P1.5).
func Ask(r api.Room, month int) (a, b, wide int, e api.Errno) {
	c, e := open(r, about{months: []int{month}})
	if e != api.OK {
		return 0, 0, 0, e
	}
	there := c.there(month)
	if len(there) < 2 {
		return 0, 0, 0, api.ErrNone
	}
	wide = -1
	for i, x := range there {
		for _, y := range there[i+1:] {
			s := c.differ(place{x, month}, place{y, month})
			if s.Hi-s.Lo > wide {
				a, b, wide = x, y, s.Hi-s.Lo
			}
		}
	}
	return a, b, wide, api.OK
}
