package box

import (
	"slices"

	"middling/api"
	"middling/lists"
)

// Put returns the room with a match more (P1.7).
func Put(r api.Room, x api.Match) (api.Room, api.Errno) {
	if e := Check(r); e != api.OK {
		return api.Room{}, e
	}
	if len(r.Matches) >= api.MaxMatches {
		return api.Room{}, api.ErrFull
	}
	y := copied(r)
	y.Matches = lists.Put(r.Matches, x, number)
	if Check(y) != api.OK {
		return api.Room{}, api.ErrMatch
	}
	return y, api.OK
}

// Strike returns the room without some matches (P1.7).
func Strike(r api.Room, numbers []int) (api.Room, api.Errno) {
	if e := Check(r); e != api.OK {
		return api.Room{}, e
	}
	left, ok := lists.Strike(r.Matches, numbers, number)
	if !ok {
		return api.Room{}, api.ErrMatch
	}
	y := copied(r)
	y.Matches = left
	return y, api.OK
}

// Add returns the room with a box more (P1.7).
func Add(r api.Room, x api.Box) (api.Room, api.Errno) {
	if e := Check(r); e != api.OK {
		return api.Room{}, e
	}
	if len(r.Boxes) >= api.MaxBoxes {
		return api.Room{}, api.ErrFull
	}
	y := copied(r)
	y.Boxes = lists.Put(r.Boxes, x, id)
	if Check(y) != api.OK {
		return api.Room{}, api.ErrBox
	}
	return y, api.OK
}

// copied returns the room in memory of its own.
func copied(r api.Room) api.Room {
	r.Ages, r.Boxes, r.Matches = slices.Clone(r.Ages), slices.Clone(r.Boxes), slices.Clone(r.Matches)
	return r
}
