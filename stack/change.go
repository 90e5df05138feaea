package stack

import (
	"slices"

	"middling/api"
	"middling/lists"
)

// Do returns the warehouse with a move more (P8.7).
func Do(w api.Warehouse, m api.Move) (api.Warehouse, api.Errno) {
	return with(w, len(w.Moves) < api.MaxMoves, func(y *api.Warehouse) { y.Moves = append(y.Moves, m) }, api.ErrMove)
}

// Find returns the warehouse with something found more (P8.7).
func Find(w api.Warehouse, f api.Found) (api.Warehouse, api.Errno) {
	return with(w, len(w.Found) < api.MaxFound, func(y *api.Warehouse) { y.Found = lists.Put(y.Found, f, numberOf) }, api.ErrFound)
}

// Strike returns the warehouse without some that was found (P8.7).
func Strike(w api.Warehouse, numbers []int) (api.Warehouse, api.Errno) {
	if e := Check(w); e != api.OK {
		return api.Warehouse{}, e
	}
	left, ok := lists.Strike(w.Found, numbers, numberOf)
	if !ok {
		return api.Warehouse{}, api.ErrFound
	}
	w.Found = left
	return copied(w), api.OK
}

// with returns a valid warehouse to which something is added, if there is room for it: an error unless it is valid then.
func with(w api.Warehouse, room bool, add func(*api.Warehouse), unless api.Errno) (api.Warehouse, api.Errno) {
	if e := Check(w); e != api.OK {
		return api.Warehouse{}, e
	}
	if !room {
		return api.Warehouse{}, api.ErrFull
	}
	y := copied(w)
	add(&y)
	if Check(y) != api.OK {
		return api.Warehouse{}, unless
	}
	return y, api.OK
}

// copied returns the warehouse in memory of its own.
func copied(w api.Warehouse) api.Warehouse {
	w.Stacks, w.Owners, w.Moves, w.Rain, w.Found = slices.Clone(w.Stacks), slices.Clone(w.Owners), slices.Clone(w.Moves), slices.Clone(w.Rain), slices.Clone(w.Found)
	for at := range w.Stacks {
		w.Stacks[at].Bales = slices.Clone(w.Stacks[at].Bales)
	}
	return w
}
