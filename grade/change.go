package grade

import (
	"slices"

	"middling/api"
	"middling/box"
	"middling/lists"
)

// Put returns the desk with a look more (P2.7).
func Put(d api.Desk, x api.Look) (api.Desk, api.Errno) {
	if e := Check(d); e != api.OK {
		return api.Desk{}, e
	}
	if len(d.Looks) >= api.MaxLooks {
		return api.Desk{}, api.ErrFull
	}
	y := copied(d, lists.Put(d.Looks, x, number))
	if Check(y) != api.OK {
		return api.Desk{}, api.ErrLook
	}
	return y, api.OK
}

// Strike returns the desk without some looks (P2.7).
func Strike(d api.Desk, numbers []int) (api.Desk, api.Errno) {
	if e := Check(d); e != api.OK {
		return api.Desk{}, e
	}
	left, ok := lists.Strike(d.Looks, numbers, number)
	if !ok {
		return api.Desk{}, api.ErrLook
	}
	return copied(d, left), api.OK
}

// copied returns a valid desk in memory of its own, with other looks.
func copied(d api.Desk, looks []api.Look) api.Desk {
	d.Room, _ = box.Strike(d.Room, nil)
	d.Bales, d.Classers, d.Looks = slices.Clone(d.Bales), slices.Clone(d.Classers), looks
	return d
}
