package box

import (
	"slices"

	"middling/api"
)

// Put returns the room with a match more (P1.7).
func Put(r api.Room, x api.Match) (api.Room, api.Errno) {
	if e := Check(r); e != api.OK {
		return api.Room{}, e
	}
	if len(r.Matches) >= api.MaxMatches {
		return api.Room{}, api.ErrFull
	}
	y := copied(r)
	y.Matches = insert(y.Matches, x, func(m api.Match) bool { return m.Number >= x.Number })
	if Check(y) != api.OK {
		return api.Room{}, api.ErrMatch
	}
	return y, api.OK
}

// Strike returns the room without some matches (P1.7).
func Strike(r api.Room, numbers []int) (api.Room, api.Errno) {
	if e := Check(r); e != api.OK {
		return api.Room{}, e
	}
	if !rising(numbers) {
		return api.Room{}, api.ErrMatch
	}
	y := copied(r)
	y.Matches = slices.DeleteFunc(y.Matches, func(m api.Match) bool { return slices.Contains(numbers, m.Number) })
	// No number is there twice: if as many matches went out, each one is that of a match.
	if len(y.Matches)+len(numbers) != len(r.Matches) {
		return api.Room{}, api.ErrMatch
	}
	return y, api.OK
}

// Add returns the room with a box more (P1.7).
func Add(r api.Room, x api.Box) (api.Room, api.Errno) {
	if e := Check(r); e != api.OK {
		return api.Room{}, e
	}
	if len(r.Boxes) >= api.MaxBoxes {
		return api.Room{}, api.ErrFull
	}
	y := copied(r)
	y.Boxes = insert(y.Boxes, x, func(b api.Box) bool { return b.Id >= x.Id })
	if Check(y) != api.OK {
		return api.Room{}, api.ErrBox
	}
	return y, api.OK
}

// copied returns the room in memory of its own.
func copied(r api.Room) api.Room {
	r.Ages, r.Boxes, r.Matches = slices.Clone(r.Ages), slices.Clone(r.Boxes), slices.Clone(r.Matches)
	return r
}

// insert returns l with x before the first one that is after it.
func insert[T any](l []T, x T, after func(T) bool) []T {
	at := slices.IndexFunc(l, after)
	if at < 0 {
		at = len(l)
	}
	return slices.Insert(l, at, x)
}
