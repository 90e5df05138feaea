package mill

import (
	"slices"

	"middling/api"
	"middling/lists"
)

// Put returns the mill with a bale more (P9.7).
func Put(m api.Mill, x api.Cotton) (api.Mill, api.Errno) {
	if e := Check(m); e != api.OK {
		return api.Mill{}, e
	}
	if len(m.Cottons) >= api.MaxCottons {
		return api.Mill{}, api.ErrFull
	}
	m.Cottons = lists.Put(m.Cottons, x, idOf)
	return ifValid(m, api.ErrCotton)
}

// Take returns the mill without a bale (P9.7).
func Take(m api.Mill, bale int) (api.Mill, api.Errno) {
	if e := Check(m); e != api.OK {
		return api.Mill{}, e
	}
	left, ok := lists.Strike(m.Cottons, []int{bale}, idOf)
	if !ok {
		return api.Mill{}, api.ErrNone
	}
	m.Cottons = left
	return copied(m), api.OK
}

// Want returns the mill with other lots (P9.7).
func Want(m api.Mill, lots, size int) (api.Mill, api.Errno) {
	if e := Check(m); e != api.OK {
		return api.Mill{}, e
	}
	m.Lots, m.Size = lots, size
	return ifValid(m, api.ErrWant)
}

// ifValid returns a mill in memory of its own, or an error if it is not valid.
func ifValid(m api.Mill, e api.Errno) (api.Mill, api.Errno) {
	if Check(m) != api.OK {
		return api.Mill{}, e
	}
	return copied(m), api.OK
}

// copied returns the mill in memory of its own.
func copied(m api.Mill) api.Mill {
	m.Cottons = slices.Clone(m.Cottons)
	for at := range m.Cottons {
		b := &m.Cottons[at].Bale
		b.Draws, b.Weighs = slices.Clone(b.Draws), slices.Clone(b.Weighs)
	}
	return m
}
