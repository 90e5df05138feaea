package chain

import (
	"slices"

	"middling/api"
	"middling/lists"
)

// Check returns the error of a chain (P6.1).
func Check(c api.Chain) api.Errno {
	if len(c.Sales) > api.MaxSales || !isSound(c) {
		return api.ErrChain
	}
	return api.OK
}

// isSound reports whether a chain is valid, but for how many sales it has.
func isSound(c api.Chain) bool {
	if len(c.Houses) > api.MaxHouses || !lists.Rising(c.Houses) || !lists.Rising(lists.Numbers(c.Sales, numberOf)) {
		return false
	}
	return !slices.ContainsFunc(c.Sales, func(s api.Sale) bool { return !isBetween(c.Houses, s) })
}

// isBetween reports whether a sale is one between two of some houses.
func isBetween(houses []int, s api.Sale) bool {
	return s.Seller != s.Buyer && lists.Among(houses, []int{s.Seller, s.Buyer}) && lists.Within(api.Span{Lo: 1, Hi: api.MaxSold}, s.Bales) && lists.Within(api.Span{Lo: 0, Hi: api.MaxPence}, s.Price)
}

func numberOf(s api.Sale) int { return s.Number }

func balesOf(s api.Sale) int { return s.Bales }

// about is what a call is about: houses, sales, by their Numbers, and prices of the day.
type about struct {
	houses, numbers []int
	prices          []api.Span
}

// questions returns what a chain is asked, in order: each one relies on those before it.
func questions() [4]lists.Question[api.Chain, about] {
	return [4]lists.Question[api.Chain, about]{
		{So: isValid, E: api.ErrChain},
		{So: hasHouses, E: api.ErrNone},
		{So: hasSales, E: api.ErrSale},
		{So: arePrices, E: api.ErrPrice},
	}
}

func isValid(c api.Chain, _ about) bool { return Check(c) == api.OK }

func hasHouses(c api.Chain, x about) bool { return lists.Among(c.Houses, x.houses) }

func hasSales(c api.Chain, x about) bool {
	return lists.Among(lists.Numbers(c.Sales, numberOf), x.numbers)
}

func arePrices(_ api.Chain, x about) bool {
	return !slices.ContainsFunc(x.prices, func(s api.Span) bool { return !lists.Part(s, 0, api.MaxPence) })
}

// open returns the market of a valid chain, or the first error of a call (P6.1).
func open(c api.Chain, x about) (market, api.Errno) {
	l := questions()
	if e := lists.Asked(c, x, l[:]...); e != api.OK {
		return market{}, e
	}
	return market{Chain: c}, api.OK
}

// told returns what is told of a valid chain, or the first error of a call.
func told[T any](c api.Chain, x about, tell func(market) T) (T, api.Errno) {
	m, e := open(c, x)
	return lists.Told(m, e, tell)
}

// toldClosed returns what is told of the closing of a valid chain, or the first error of a call.
func toldClosed[T any](c api.Chain, x about, tell func(market) T) (T, api.Errno) {
	m, e := told(c, x, market.closing)
	return lists.Told(m, e, tell)
}
