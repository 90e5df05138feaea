package chain

import (
	"cmp"
	"slices"

	"middling/api"
	"middling/lists"
)

// pays returns what each house gets for the bales that do not move, at a price of the day.
func (m market) pays(price int) []int {
	return m.balance(func(s api.Sale) int { return (s.Bales - m.moves[s]) * (price - s.Price) })
}

// stop is a market in which a house stops.
type stop struct {
	market
	house int
}

// loses returns what each house loses at a price of the day, in order.
func (x stop) loses(price int) []int {
	l := x.balance(func(s api.Sale) int {
		if s.Seller != x.house && s.Buyer != x.house {
			return 0
		}
		return s.Bales * (price - s.Price)
	})
	for i, house := range x.Houses {
		if l[i] < 0 || house == x.house {
			l[i] = 0
		}
	}
	return l
}

// between returns what each house loses at least and at most by prices of the day, by what each one loses at a price.
// That rises with the price, or falls, all the way: both ends come about at those of the prices.
func between(prices api.Span, loses func(price int) []int) []api.Span {
	a, b := loses(prices.Lo), loses(prices.Hi)
	var l []api.Span
	for i := range a {
		l = append(l, api.Span{Lo: min(a[i], b[i]), Hi: max(a[i], b[i])})
	}
	return l
}

// losses returns what each house loses at least and at most if one stops.
func (m market) losses(house int, prices api.Span) []api.Span {
	return between(prices, stop{m, house}.loses)
}

// together returns what all houses lose at most if one stops.
func (m market) together(house int, prices api.Span) int {
	n := 0
	for _, s := range m.losses(house, prices) {
		n += s.Hi
	}
	return n
}

// worst returns the first house by whose stopping the others lose most: false if there is no house.
func (m market) worst(prices api.Span) (int, bool) {
	return lists.First(slices.Values(m.Houses), func(a, b int) int {
		return cmp.Compare(m.together(b, prices), m.together(a, prices))
	})
}
