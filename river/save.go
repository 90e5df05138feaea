package river

import (
	"cmp"
	"iter"
	"maps"
	"slices"

	"middling/api"
	"middling/lists"
)

// can tells what is known of whether a bale can be saved.
func (r rescue) can(bale int) uint8 {
	x := r.spots[bale]
	// It is away the soonest behind the bales above it alone.
	away := r.all().away(x.above)
	return lists.Known(away < r.late.of(x.level), away >= r.early.of(x.level))
}

// next yields the bales on top that the next load saves at worst.
func (r rescue) next(g gone, away func(before int) int) iter.Seq[taken] {
	return func(yield func(taken) bool) {
		for x := range r.tops(g) {
			if away(g.bales()) < r.early.of(r.spots[x.bale].level) && !yield(x) {
				return
			}
		}
	}
}

// rest returns what tells how many pence more can be saved at worst, at most, behind what has gone, if loads are away in some minutes.
func (r rescue) rest(away func(before int) int) func(g gone) int {
	kept := map[gone]int{}
	var rest func(g gone) int
	rest = func(g gone) int {
		if pence, is := kept[g]; is {
			return pence
		}
		most := 0
		// To take a bale that is not saved helps nothing: those below it are not saved then, and all others come later.
		for x := range r.next(g, away) {
			most = max(most, r.pence[x.bale]+rest(x.gone))
		}
		kept[g] = most
		return most
	}
	return rest
}

// saved returns how many pence can be saved at worst, at most, by the loads by a minute.
func (r rescue) saved(minute int) int { return r.rest(r.by(minute).away)(gone{}) }

// adds returns how many pence more can be saved at worst with a gang more.
func (r rescue) adds(g api.Gang) int {
	more := r
	more.Gangs = lists.Put(r.Gangs, g, idOf)
	return more.saved(api.MaxMinute) - r.saved(api.MaxMinute)
}

// order returns the order by which the least is lost at worst.
func (r rescue) order() []int {
	away := r.all().away
	rest := r.rest(away)
	saves := func(x taken) int { return r.pence[x.bale] + rest(x.gone) }
	var l []int
	var g gone
	for {
		x, ok := lists.First(r.next(g, away), func(a, b taken) int {
			return cmp.Or(cmp.Compare(saves(b), saves(a)), cmp.Compare(a.bale, b.bale))
		})
		if !ok {
			return l
		}
		l, g = append(l, x.bale), x.gone
	}
}

// lost returns what each bale is worth that is lost by an order, if the river reaches the levels in some minutes.
func (r rescue) lost(order []int, reached minutes) map[int]int {
	lost := maps.Clone(r.pence)
	away := r.all().away
	for before, bale := range order {
		if away(before) < reached.of(r.spots[bale].level) {
			delete(lost, bale)
		}
	}
	return lost
}

// sum returns what bales are worth together.
func sum(pence map[int]int) int {
	n := 0
	for _, x := range pence {
		n += x
	}
	return n
}

// judged returns what is lost by an order, at best and at worst.
func (r rescue) judged(order []int) api.Span {
	return api.Span{Lo: sum(r.lost(order, r.late)), Hi: sum(r.lost(order, r.early))}
}

// losses returns what each owner loses at worst by the order by which the least is lost.
func (r rescue) losses() []api.Loss {
	lost := r.lost(r.order(), r.early)
	loses := map[int]int{}
	for _, x := range r.House.Owners {
		loses[x.Owner] += lost[x.Bale]
	}
	var l []api.Loss
	for _, owner := range slices.Sorted(maps.Keys(loses)) {
		if loses[owner] > 0 {
			l = append(l, api.Loss{Owner: owner, Pence: loses[owner]})
		}
	}
	return l
}
