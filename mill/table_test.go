package mill

import (
	"slices"
	"testing"

	"middling/api"
	"middling/testhelp"
)

// alike has bales of one layer, all alike.
func alike(lots, size, cottons int) api.Mill {
	m := api.Mill{Lots: lots, Size: size}
	for i := range cottons {
		m.Cottons = append(m.Cottons, api.Cotton{Bale: api.Bale{Id: i + 1, Layers: 1, Dry: api.Span{Lo: 1, Hi: 1}}, Length: 1, Strength: 1})
	}
	return m
}

// Loops may end after any plan, exchange or order, and begin again; no two share memory.
func TestLoopsEndAnywhere(t *testing.T) {
	x := lay(alike(2, 2, 5))
	plans := slices.Collect(x.plans())
	if len(plans) != 30 || !slices.IsSortedFunc(plans, slices.Compare) || !slices.Equal(plans[0], []int{0, 1, 1, 2, 2}) || !slices.Equal(plans[29], []int{2, 2, 1, 1, 0}) {
		t.Error(plans)
	}
	orders := slices.Collect(lay(alike(3, 2, 6)).orders())
	if want := [][]int{{1, 2, 3}, {1, 3, 2}, {2, 1, 3}, {2, 3, 1}, {3, 1, 2}, {3, 2, 1}}; !slices.EqualFunc(orders, want, slices.Equal) {
		t.Error(orders)
	}
	var exchanges [][]int
	for y := range x.exchanges([]int{1, 1, 0, 2, 2}) {
		exchanges = append(exchanges, append([]int{y.out, y.in}, y.plan...))
	}
	if want := [][]int{{1, 3, 0, 1, 1, 2, 2}, {2, 3, 1, 0, 1, 2, 2}, {4, 3, 1, 1, 2, 0, 2}, {5, 3, 1, 1, 2, 2, 0}}; !slices.EqualFunc(exchanges, want, slices.Equal) {
		t.Error(exchanges)
	}
	same := func(a, b exchange) bool { return a.out == b.out && a.in == b.in && slices.Equal(a.plan, b.plan) }
	if !testhelp.EndsAnywhere(x.plans(), slices.Equal) || !testhelp.EndsAnywhere(x.orders(), slices.Equal) || !testhelp.EndsAnywhere(x.exchanges([]int{1, 1, 0, 2, 2}), same) {
		t.Error(x)
	}
	for _, l := range [][][]int{plans, orders} {
		if !testhelp.Apart(l, slices.Clone, slices.Equal, func(l []int) { testhelp.Spoil(l, 77) }) {
			t.Error(l)
		}
	}
}

// Plans are as many as there are ways to put bales into lots.
func TestAllPlans(t *testing.T) {
	for i, x := range []struct{ lots, size, cottons, want int }{{1, 2, 7, 21}, {1, 4, 7, 35}, {2, 2, 7, 210}, {2, 3, 7, 140}, {3, 2, 7, 630}, {3, 2, 6, 90}, {1, 2, 2, 1}, {1, 2, 1, 0}, {1, 2, 0, 0}, {2, 4, 7, 0}, {3, 4, 7, 0}} {
		y := lay(alike(x.lots, x.size, x.cottons))
		n := 0
		for plan := range y.plans() {
			n++
			if !y.allows(plan) {
				t.Error(i, plan)
			}
		}
		if n != x.want || y.hasPlan() != (n > 0) {
			t.Error(i, n)
		}
	}
}

// R3: what is so without a bale is not kept for the whole.
func TestWithoutIsApart(t *testing.T) {
	x := lay(alike(1, 2, 3))
	if y := x.without(2); y.isFit(1) || !y.isFit(0) || !slices.Equal(y.best(), []int{1, 0, 1}) || !slices.Equal(x.best(), []int{0, 1, 1}) || len(x.fit) != 3 {
		t.Error(x, y)
	}
	if y := x.without(2).without(3); y.hasPlan() || !x.hasPlan() {
		t.Error(y)
	}
}
