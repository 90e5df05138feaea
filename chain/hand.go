package chain

import (
	"cmp"
	"maps"

	"middling/api"
	"middling/lists"
)

// passes returns the houses that get bales, and give some.
func (m market) passes() []int {
	gets, gives := map[int]bool{}, map[int]bool{}
	for s, n := range m.moves {
		if n > 0 {
			gets[s.Buyer], gives[s.Seller] = true, true
		}
	}
	var l []int
	for _, house := range m.Houses {
		if gets[house] && gives[house] {
			l = append(l, house)
		}
	}
	return l
}

// owes returns how many bales each house has to give that has to give more than it gets.
func (m market) owes() map[int]int {
	l := map[int]int{}
	for i, n := range m.owed() {
		if n < 0 {
			l[m.Houses[i]] = -n
		}
	}
	return l
}

// handing returns what hands on one bale after the other: from which house, and to which one at last.
func (m market) handing() func(house int) int {
	left := maps.Clone(m.moves)
	var on func(house int) int
	on = func(house int) int {
	sales:
		for _, s := range m.Sales {
			if s.Seller != house || left[s] == 0 {
				continue sales
			}
			left[s]--
			return on(s.Buyer)
		}
		return house
	}
	return on
}

// hands returns who hands how many bales to whom at last, in the order of both.
func (m market) hands() []api.Handed {
	handed := map[[2]int]int{}
	on, left := m.handing(), m.owes()
	for len(left) > 0 {
		from, _ := lists.First(maps.Keys(left), cmp.Compare[int])
		to := on(from)
		handed[[2]int{from, to}]++
		left[from]--
		if left[from] == 0 {
			delete(left, from)
		}
	}
	var l []api.Handed
	for _, from := range m.Houses {
		for _, to := range m.Houses {
			if n := handed[[2]int{from, to}]; n > 0 {
				l = append(l, api.Handed{From: from, To: to, Bales: n})
			}
		}
	}
	return l
}

// way returns the fewest sales by which a bale can go from a house to another one, of several lists the first one: false if there is none.
func (m market) way(from, to int) ([]int, bool) {
	var l []int
	var goes func(house, more int) bool
	goes = func(house, more int) bool {
		if more == 0 {
			return house == to
		}
		for _, s := range m.Sales {
			if s.Seller != house {
				continue
			}
			l = append(l, s.Number)
			if goes(s.Buyer, more-1) {
				return true
			}
			l = l[:len(l)-1]
		}
		return false
	}
	// A way that comes to each house at most once has fewer sales than there are houses.
	for n := range m.Houses {
		if goes(from, n) {
			return l, true
		}
	}
	return nil, false
}
