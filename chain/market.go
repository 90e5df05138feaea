package chain

import (
	"iter"
	"slices"

	"middling/api"
	"middling/lists"
)

// mostSales is how many sales a market has at most: those of a chain, and the one of which is asked what it adds.
const mostSales = api.MaxSales + 1

// market is a chain at work, valid but for how many sales it has, with how many bales move by each one so far.
type market struct {
	api.Chain
	moves map[api.Sale]int
}

// moved returns how many bales move by a sale so far.
func (m market) moved(s api.Sale) int { return m.moves[s] }

// total returns how many bales move so far, all sales together.
func (m market) total() int {
	n := 0
	for _, moved := range m.moves {
		n += moved
	}
	return n
}

// balance returns what each house gets less what it gives, in order, if each sale brings so much from its seller to its buyer.
func (m market) balance(brings func(api.Sale) int) []int {
	net := map[int]int{}
	for _, s := range m.Sales {
		n := brings(s)
		net[s.Seller] -= n
		net[s.Buyer] += n
	}
	return lists.Numbers(m.Houses, func(house int) int { return net[house] })
}

// owed returns what each house is owed, in order.
func (m market) owed() []int { return m.balance(balesOf) }

// wanting returns the houses to which fewer bales move so far than they are owed.
func (m market) wanting() []int {
	var l []int
	owed, got := m.owed(), m.balance(m.moved)
	for i, house := range m.Houses {
		if got[i] < owed[i] {
			l = append(l, house)
		}
	}
	return l
}

// step is a change by which one bale more, or fewer, moves by a sale: one house has a bale less then, and the other one has it more.
type step struct {
	sale         api.Sale
	by, from, to int
}

// steps yields those that can be, in the order of their sales.
func (m market) steps() iter.Seq[step] {
	return func(yield func(step) bool) {
		for _, s := range m.Sales {
			if m.moves[s] < s.Bales && !yield(step{s, 1, s.Seller, s.Buyer}) {
				return
			}
			if m.moves[s] > 0 && !yield(step{s, -1, s.Buyer, s.Seller}) {
				return
			}
		}
	}
}

// cost is how many bales move, and behind it what decides between as many: the first number that differs.
type cost [1 + mostSales]int

// plus returns the cost with that of so many bales more.
func (c cost) plus(bales int, each cost) cost {
	for i, n := range each {
		c[i] += bales * n
	}
	return c
}

// inOrder returns what a bale costs by a sale, so that of several closings the one costs least by which fewer move at the first sale that differs.
func (m market) inOrder(s api.Sale) cost {
	c := cost{1}
	c[1+slices.Index(m.Sales, s)] = 1
	return c
}

// alike returns what a bale costs by any sale, if nothing decides between as many bales.
func alike(api.Sale) cost { return cost{1} }

// but returns what a bale costs by any sale, and by one of them a number more, which decides between as many bales.
func but(sale api.Sale, n int) func(api.Sale) cost {
	return func(s api.Sale) cost {
		c := alike(s)
		if s == sale {
			c[1] = n
		}
		return c
	}
}

// route is steps that bring a bale on from house to house, and what they cost together.
type route struct {
	steps []step
	cost  cost
}

func cheaper(a, b route) int { return slices.Compare(a.cost[:], b.cost[:]) }

// routesFrom yields the route from a house that is known, if there is one, then those by a step to a house from which one is known.
func (m market) routesFrom(house int, known map[int]route, costs func(api.Sale) cost) iter.Seq[route] {
	return func(yield func(route) bool) {
		if r, ok := known[house]; ok && !yield(r) {
			return
		}
		for s := range m.steps() {
			rest, ok := known[s.to]
			if s.from != house || !ok {
				continue
			}
			if !yield(route{append([]step{s}, rest.steps...), rest.cost.plus(s.by, costs(s.sale))}) {
				return
			}
		}
	}
}

// routes returns the cheapest one from each house to any of some, if there is one.
// It ends where no steps in a ring cost less than nothing: each route that gets cheaper comes to no house twice.
func (m market) routes(to []int, costs func(api.Sale) cost) map[int]route {
	known := map[int]route{}
	for _, house := range to {
		known[house] = route{}
	}
	for changed := true; changed; {
		changed = false
		for _, house := range m.Houses {
			before, was := known[house]
			r, is := lists.First(m.routesFrom(house, known, costs), cheaper)
			if is && (!was || r.cost != before.cost) {
				known[house], changed = r, true
			}
		}
	}
	return known
}

// closed returns the market with the closing that costs least, by what a bale costs by each sale.
func (m market) closed(costs func(api.Sale) cost) market {
	m.moves = map[api.Sale]int{}
	for i, n := range m.owed() {
		// Each bale goes by the cheapest route: then no steps in a ring make cheaper what moves so far, as none do at first, when nothing moves.
		for range -n {
			for _, s := range m.routes(m.wanting(), costs)[m.Houses[i]].steps {
				m.moves[s.sale] += s.by
			}
		}
	}
	return m
}

// closing returns the market with the closing.
func (m market) closing() market { return m.closed(m.inOrder) }

// proof returns the number of each house, in order: how many bales steps from it on save at most.
// They are the least ones from 0 on where no step leads to a number that is greater by more than the step costs.
func (m market) proof() []int {
	l := m.routes(m.Houses, alike)
	return lists.Numbers(m.Houses, func(house int) int { return -l[house].cost[0] })
}

// span returns how many bales move by a sale in all closings by which as few move.
func (m market) span(number int) api.Span {
	s := lists.Numbered(m.Sales, number, numberOf)
	return api.Span{Lo: m.closed(but(s, 1)).moves[s], Hi: m.closed(but(s, -1)).moves[s]}
}
