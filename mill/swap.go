package mill

import (
	"iter"
	"slices"

	"middling/lists"
)

// exchange is the bale that is left by it, the one that is put in its place, and the plan that comes of it.
type exchange struct {
	out, in int
	plan    []int
}

// exchanges yields those of an allowed plan by which it becomes an allowed one, in the order of the bales that are left, then of those that are put in.
func (t table) exchanges(plan []int) iter.Seq[exchange] {
	return func(yield func(exchange) bool) {
		for out := range plan {
			for in := range plan {
				if plan[out] == 0 || plan[in] > 0 || !t.isFit(in) {
					continue
				}
				x := exchange{idOf(t.Cottons[out]), idOf(t.Cottons[in]), slices.Clone(plan)}
				x.plan[out], x.plan[in] = 0, plan[out]
				if !yield(x) {
					return
				}
			}
		}
	}
}

// swap returns the exchange by which a plan becomes the most even: false if by none it becomes more even.
func (t table) swap(plan []int) (exchange, bool) {
	order := evener(t.judged)
	x, ok := lists.First(t.exchanges(plan), func(a, b exchange) int { return order(a.plan, b.plan) })
	return x, ok && order(x.plan, plan) < 0
}
