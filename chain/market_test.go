package chain

import (
	"slices"
	"testing"

	"middling/api"
	"middling/testhelp"
)

func sale(number, seller, buyer, bales int) api.Sale {
	return api.Sale{Number: number, Seller: seller, Buyer: buyer, Bales: bales}
}

// pair has a sale of which some bales move, one of which none do, and one of which all do.
func pair() market {
	a, b, c := sale(1, 1, 2, 3), sale(2, 2, 1, 3), sale(3, 1, 2, 3)
	return market{api.Chain{Houses: []int{1, 2}, Sales: []api.Sale{a, b, c}}, map[api.Sale]int{a: 2, c: 3}}
}

func equal[T comparable](a, b T) bool { return a == b }

func sameRoute(a, b route) bool { return a.cost == b.cost && slices.Equal(a.steps, b.steps) }

// A bale more, or fewer, by each sale by which it can be; loops may end after any step, or route.
func TestLoopsEndAnywhere(t *testing.T) {
	m := pair()
	a, b, c := m.Sales[0], m.Sales[1], m.Sales[2]
	if l := slices.Collect(m.steps()); !slices.Equal(l, []step{{a, 1, 1, 2}, {a, -1, 2, 1}, {b, 1, 2, 1}, {c, -1, 2, 1}}) {
		t.Error(l)
	}
	known := map[int]route{1: {}, 2: {}}
	l := slices.Collect(m.routesFrom(2, known, alike))
	want := []route{{}, {[]step{{a, -1, 2, 1}}, cost{-1}}, {[]step{{b, 1, 2, 1}}, cost{1}}, {[]step{{c, -1, 2, 1}}, cost{-1}}}
	if !slices.EqualFunc(l, want, sameRoute) {
		t.Error(l)
	}
	delete(known, 2)
	if l := slices.Collect(m.routesFrom(2, known, alike)); !slices.EqualFunc(l, want[1:], sameRoute) {
		t.Error(l)
	}
	if l := slices.Collect(m.routesFrom(1, known, alike)); !slices.EqualFunc(l, want[:1], sameRoute) {
		t.Error(l)
	}
	if !testhelp.EndsAnywhere(m.steps(), equal) || !testhelp.EndsAnywhere(m.routesFrom(2, map[int]route{1: {}, 2: {}}, alike), sameRoute) {
		t.Error(m)
	}
}

// R3: a closing is one of its own, apart from what moved before.
func TestClosedIsApart(t *testing.T) {
	m := pair()
	a, b, c := m.Sales[0], m.Sales[1], m.Sales[2]
	if l := m.closing(); l.moves[a] != 0 || l.moves[b] != 0 || l.moves[c] != 3 || l.total() != 3 {
		t.Error(l)
	}
	if l := m.closed(but(c, 1)); l.moves[a] != 3 || l.moves[b] != 0 || l.moves[c] != 0 {
		t.Error(l)
	}
	if m.moves[a] != 2 || m.moves[b] != 0 || m.moves[c] != 3 || m.total() != 5 {
		t.Error(m)
	}
}

// R3: bales that are handed on still move.
func TestHandsAreApart(t *testing.T) {
	m := pair().closing()
	for range 2 {
		if l := m.hands(); !slices.Equal(l, []api.Handed{{From: 1, To: 2, Bales: 3}}) || m.total() != 3 {
			t.Error(l, m.total())
		}
	}
}
