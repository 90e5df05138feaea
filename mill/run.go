package mill

import (
	"cmp"
	"iter"
	"slices"

	"middling/lists"
)

// orders yields all orders in which lots can run: of two, first the one in which the first lot that differs is less.
func (t table) orders() iter.Seq[[]int] {
	return func(yield func([]int) bool) {
		var on func(order []int) bool
		on = func(order []int) bool {
			n := len(order)
			if n == t.Lots {
				return yield(order)
			}
			for at := range t.Lots {
				if lot := at + 1; !slices.Contains(order, lot) && !on(append(order[:n:n], lot)) {
					return false
				}
			}
			return true
		}
		on(nil)
	}
}

// sums returns the sum of the lengths of each lot of a plan.
func (t table) sums(plan []int) []int {
	sums := make([]int, t.Lots)
	for at, lot := range plan {
		if lot > 0 {
			sums[lot-1] += t.Cottons[at].Length
		}
	}
	return sums
}

// step returns the greatest step if lots with some sums run in an order: 0 of one lot.
func step(sums, order []int) int {
	most := 0
	for at := 1; at < len(order); at++ {
		most = max(most, far(sums[order[at-1]-1], sums[order[at]-1]))
	}
	return most
}

// run is an order of lots, and the greatest step in it.
type run struct {
	order []int
	step  int
}

// run returns how the lots of a plan run best.
func (t table) run(plan []int) run {
	sums := t.sums(plan)
	order, _ := lists.First(t.orders(), func(a, b []int) int { return cmp.Compare(step(sums, a), step(sums, b)) })
	return run{order, step(sums, order)}
}
