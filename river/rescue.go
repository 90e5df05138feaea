package river

import (
	"iter"
	"slices"

	"middling/api"
	"middling/lists"
	"middling/stack"
)

// spot is where a bale lies at last: its level, and how many bales lie above it.
type spot struct{ level, above int }

// rescue is a valid flood at work: how the river rises, the stacks as they are at last, where each bale lies then, and what it is worth.
type rescue struct {
	api.Flood
	rise
	stacks []api.Stack
	spots  map[int]spot
	pence  map[int]int
}

// begin returns the rescue of a valid flood.
func begin(f api.Flood) rescue {
	// The House of a valid flood is valid: there is no error.
	stacks, _ := stack.At(f.House, api.MaxDays)
	r := rescue{f, riseBy(f, f.Reports), stacks, map[int]spot{}, map[int]int{}}
	for _, x := range stacks {
		for at, bale := range x.Bales {
			r.spots[bale] = spot{level: x.Row + at, above: len(x.Bales) - 1 - at}
			r.pence[bale] = lists.Numbered(f.Worths, bale, baleOf).Pence
		}
	}
	return r
}

// spares reports whether there is a truth without some reports.
func (r rescue) spares(out []api.Report) bool {
	return riseBy(r.Flood, lists.Except(r.Reports, out)).comes()
}

// gone is how many bales have been taken away of each stack.
type gone [api.MaxStacks]int

// bales returns how many bales have been taken away.
func (g gone) bales() int {
	n := 0
	for at := range g {
		n += g[at]
	}
	return n
}

// allows reports whether so many bales can have been taken away of each stack.
func (r rescue) allows(numbers []int) bool {
	if len(numbers) != len(r.stacks) {
		return false
	}
	for at, n := range numbers {
		if !areFrom(0, len(r.stacks[at].Bales), n) {
			return false
		}
	}
	return true
}

// behind returns what has gone, by a list of how many bales of each stack.
func behind(numbers []int) gone {
	var g gone
	copy(g[:], numbers)
	return g
}

// taken is a bale that is taken away, and what has gone then.
type taken struct {
	bale int
	gone gone
}

// tops yields the bales that are on top, in the order of the stacks.
func (r rescue) tops(g gone) iter.Seq[taken] {
	return func(yield func(taken) bool) {
	stacks:
		for at, x := range r.stacks {
			high := len(x.Bales) - g[at]
			if high == 0 {
				continue stacks
			}
			then := g
			then[at]++
			if !yield(taken{x.Bales[high-1], then}) {
				return
			}
		}
	}
}

// takes reports whether a list of bales is an order.
func (r rescue) takes(order []int) bool {
	var g gone
	for _, bale := range order {
		tops := slices.Collect(r.tops(g))
		at := slices.IndexFunc(tops, func(x taken) bool { return x.bale == bale })
		if at < 0 {
			return false
		}
		g = tops[at].gone
	}
	return true
}
