package deliver

import (
	"slices"

	"middling/api"
	"middling/lists"
)

// Put returns the yard with a ware more (P5.7).
func Put(y api.Yard, x api.Ware) (api.Yard, api.Errno) {
	if e := Check(y); e != api.OK {
		return api.Yard{}, e
	}
	if len(y.Wares) >= api.MaxWares {
		return api.Yard{}, api.ErrFull
	}
	y.Wares = lists.Put(y.Wares, x, idOfWare)
	return ifValid(y, api.ErrWare)
}

// Take returns the yard without a ware (P5.7).
func Take(y api.Yard, ware int) (api.Yard, api.Errno) {
	if e := asked(y, about{wares: []int{ware}}); e != api.OK {
		return api.Yard{}, e
	}
	y.Wares, _ = lists.Strike(y.Wares, []int{ware}, idOfWare)
	return copied(y), api.OK
}

// Sign returns the yard with a deal more (P5.7).
func Sign(y api.Yard, x api.Deal) (api.Yard, api.Errno) {
	if e := Check(y); e != api.OK {
		return api.Yard{}, e
	}
	if len(y.Deals) >= api.MaxDeals {
		return api.Yard{}, api.ErrFull
	}
	y.Deals = lists.Put(y.Deals, x, idOfDeal)
	return ifValid(y, api.ErrDeal)
}

// Drop returns the yard without a deal (P5.7).
func Drop(y api.Yard, deal int) (api.Yard, api.Errno) {
	if e := asked(y, about{deals: []int{deal}}); e != api.OK {
		return api.Yard{}, e
	}
	y.Deals, _ = lists.Strike(y.Deals, []int{deal}, idOfDeal)
	return copied(y), api.OK
}

// ifValid returns a yard in memory of its own, or an error if it is not valid.
func ifValid(y api.Yard, e api.Errno) (api.Yard, api.Errno) {
	if Check(y) != api.OK {
		return api.Yard{}, e
	}
	return copied(y), api.OK
}

// copied returns the yard in memory of its own.
func copied(y api.Yard) api.Yard {
	y.Deals, y.Wares = slices.Clone(y.Deals), slices.Clone(y.Wares)
	for j := range y.Deals {
		t := &y.Deals[j].Terms
		t.Grades, t.Staples = slices.Clone(t.Grades), slices.Clone(t.Staples)
	}
	return y
}
