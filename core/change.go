package core

import (
	"slices"

	"middling/api"
	"middling/lists"
)

// Put returns the bale with a draw more (P3.8).
func Put(b api.Bale, x api.Draw) (api.Bale, api.Errno) {
	if e := Check(b); e != api.OK {
		return api.Bale{}, e
	}
	if len(b.Draws) >= api.MaxDraws {
		return api.Bale{}, api.ErrFull
	}
	b.Draws, b.Weighs = lists.Put(b.Draws, x, numberOfDraw), slices.Clone(b.Weighs)
	if Check(b) != api.OK {
		return api.Bale{}, api.ErrDraw
	}
	return b, api.OK
}

// Weighed returns the bale with a weighing more (P3.8).
func Weighed(b api.Bale, x api.Weigh) (api.Bale, api.Errno) {
	if e := Check(b); e != api.OK {
		return api.Bale{}, e
	}
	if len(b.Weighs) >= api.MaxWeighs {
		return api.Bale{}, api.ErrFull
	}
	b.Draws, b.Weighs = slices.Clone(b.Draws), lists.Put(b.Weighs, x, numberOfWeigh)
	if Check(b) != api.OK {
		return api.Bale{}, api.ErrWeigh
	}
	return b, api.OK
}

// Strike returns the bale without some draws and weighings (P3.8).
func Strike(b api.Bale, draws, weighs []int) (api.Bale, api.Errno) {
	if e := Check(b); e != api.OK {
		return api.Bale{}, e
	}
	var ok bool
	if b.Draws, ok = lists.Strike(b.Draws, draws, numberOfDraw); !ok {
		return api.Bale{}, api.ErrDraw
	}
	if b.Weighs, ok = lists.Strike(b.Weighs, weighs, numberOfWeigh); !ok {
		return api.Bale{}, api.ErrWeigh
	}
	return b, api.OK
}
