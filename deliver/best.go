package deliver

import (
	"cmp"
	"iter"
	"maps"
	"slices"

	"middling/lists"
)

// best returns what the best plans add from a state on.
func (t table) best(s state) value {
	if v, ok := t.kept[s]; ok {
		return v
	}
	var v value
	if x, ok := lists.First(t.steps(s), heaviest(t.weighs)); ok {
		v = t.goesOn(x)
	}
	t.kept[s] = v
	return v
}

// goesOn returns what a step adds, with the best that can follow.
func (t table) goesOn(x step) value { return x.adds.plus(t.best(x.to)) }

// weighs returns what a plan weighs from a step on, if the best follows.
func (t table) weighs(x step) int { return t.goesOn(x).weight() }

// heaviest returns the order in which what weighs more comes first.
func heaviest(weighs func(step) int) func(a, b step) int {
	return func(a, b step) int { return cmp.Compare(weighs(b), weighs(a)) }
}

// most returns the value of the best plan.
func (t table) most() value { return t.best(t.start()) }

// bestSteps yields the steps by which best plans go on from a state to which they lead.
func (t table) bestSteps(s state) iter.Seq[step] {
	return func(yield func(step) bool) {
		for x := range t.steps(s) {
			if t.goesOn(x) == t.best(s) && !yield(x) {
				return
			}
		}
	}
}

// plans yields all plans that have the weight of the best one.
func (t table) plans() iter.Seq[[]int] {
	return func(yield func([]int) bool) {
		var plan []int
		var give func(s state) bool
		give = func(s state) bool {
			if len(plan) == len(t.Wares) {
				return yield(slices.Clone(plan))
			}
			for x := range t.bestSteps(s) {
				plan = append(plan, x.deal)
				if !give(x.to) {
					return false
				}
				plan = plan[:len(plan)-1]
			}
			return true
		}
		give(t.start())
	}
}

// sure returns the deal to which each ware goes in all plans that have the weight of the best one: -1 if they differ.
func (t table) sure() []int {
	var l []int
	states := map[state]bool{t.start(): true}
	deals := map[int]bool{}
	for range len(t.Wares) {
		clear(deals)
		next := map[state]bool{}
		for s := range states {
			for x := range t.bestSteps(s) {
				deals[x.deal], next[x.to] = true, true
			}
		}
		states = next
		l = append(l, only(deals))
	}
	return l
}

// only returns the deal that is the only one, or -1.
func only(deals map[int]bool) int {
	if len(deals) > 1 {
		return -1
	}
	deal, _ := lists.First(maps.Keys(deals), cmp.Compare[int])
	return deal
}

// priceOfWare returns how much less the best plan weighs without a ware.
func (t table) priceOfWare(i int) int { return t.most().weight() - t.without(i).most().weight() }

// priceOfDeal returns how much more the best plan weighs with one Bale more of a deal.
func (t table) priceOfDeal(j int) int {
	more := t.start()
	more[1+j]++
	return t.best(more).weight() - t.most().weight()
}
