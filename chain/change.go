package chain

import (
	"slices"

	"middling/api"
	"middling/lists"
)

// Put returns the chain with a sale more (P6.7).
func Put(c api.Chain, x api.Sale) (api.Chain, api.Errno) {
	if e := Check(c); e != api.OK {
		return api.Chain{}, e
	}
	if len(c.Sales) >= api.MaxSales {
		return api.Chain{}, api.ErrFull
	}
	return with(c, x)
}

// Strike returns the chain without some sales (P6.7).
func Strike(c api.Chain, numbers []int) (api.Chain, api.Errno) {
	if e := Check(c); e != api.OK {
		return api.Chain{}, e
	}
	left, ok := lists.Strike(c.Sales, numbers, numberOf)
	if !ok {
		return api.Chain{}, api.ErrSale
	}
	return chainOf(c.Houses, left), api.OK
}

// Stop returns the chain without all sales of a house (P6.7).
func Stop(c api.Chain, house int) (api.Chain, api.Errno) {
	return told(c, about{houses: []int{house}}, func(m market) api.Chain {
		return chainOf(m.Houses, slices.DeleteFunc(slices.Clone(m.Sales), func(s api.Sale) bool {
			return s.Seller == house || s.Buyer == house
		}))
	})
}

// with returns a valid chain with a sale more, however many it has: an error unless it is valid then.
func with(c api.Chain, x api.Sale) (api.Chain, api.Errno) {
	c = chainOf(c.Houses, lists.Put(c.Sales, x, numberOf))
	if !isSound(c) {
		return api.Chain{}, api.ErrSale
	}
	return c, api.OK
}

// chainOf returns a chain of some houses, in memory of its own, and of new sales.
func chainOf(houses []int, sales []api.Sale) api.Chain {
	return api.Chain{Houses: slices.Clone(houses), Sales: sales}
}
