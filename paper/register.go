package paper

import (
	"iter"
	"slices"

	"middling/api"
	"middling/lists"
)

// register is valid papers at work.
type register struct{ api.Papers }

// paper returns the one with an Id.
func (r register) paper(id int) api.Paper { return lists.Numbered(r.Papers.Papers, id, idOf) }

// pass returns the one with a Number.
func (r register) pass(number int) api.Pass {
	return lists.Numbered(r.Passes, number, numberOfPass)
}

// passesOf returns the passes of a paper, in the order of their Numbers.
func (r register) passesOf(paper int) []api.Pass {
	return slices.DeleteFunc(slices.Clone(r.Passes), func(x api.Pass) bool { return x.Paper != paper })
}

// ways yields the orders in which all passes of a paper can have been made: of two, first the one in which the first Number that differs is less.
func (r register) ways(x api.Paper) iter.Seq[[]api.Pass] {
	return func(yield func([]api.Pass) bool) {
		all := r.passesOf(x.Id)
		// A pass that is made as early as it can be forbids none behind it: so a day is left for each one if there are any days for all.
		var on func(way []api.Pass, house, day int) bool
		on = func(way []api.Pass, house, day int) bool {
			if len(way) == len(all) {
				return yield(way)
			}
		passes:
			for _, next := range all {
				for _, made := range way {
					if made == next {
						continue passes
					}
				}
				if next.From != house || next.When.Hi < day {
					continue
				}
				// Without capacity left each longer way is new, and no two share memory.
				if !on(append(way[:len(way):len(way)], next), next.To, max(day, next.When.Lo)) {
					return false
				}
			}
			return true
		}
		on(nil, x.Holder, 0)
	}
}

// can reports whether there is a truth: pledges always have one.
func (r register) can() bool {
	return !slices.ContainsFunc(r.Papers.Papers, func(x api.Paper) bool { return !r.hasWay(x) })
}

func (r register) hasWay(x api.Paper) bool {
	for range r.ways(x) {
		return true
	}
	return false
}

// spares reports whether there is a truth without some passes.
func (r register) spares(out []api.Pass) bool {
	r.Passes = lists.Except(r.Passes, out)
	return r.can()
}

// orders returns the Numbers of the passes of each way.
func (r register) orders(x api.Paper) [][]int {
	var l [][]int
	for way := range r.ways(x) {
		l = append(l, lists.Numbers(way, numberOfPass))
	}
	return l
}

// when returns the day of a pass, at least and at most: it waits for all passes before it, and is waited for by those behind it.
func (r register) when(x api.Pass) api.Span {
	s := api.Span{Lo: r.Days, Hi: -1}
	for way := range r.ways(r.paper(x.Paper)) {
		at := slices.Index(way, x)
		s.Lo = min(s.Lo, slices.Max(lists.Numbers(way[:at+1], func(x api.Pass) int { return x.When.Lo })))
		s.Hi = max(s.Hi, slices.Min(lists.Numbers(way[at:], func(x api.Pass) int { return x.When.Hi })))
	}
	return s
}

// history is who holds a paper, day by day.
type history [api.MaxTerm]int

// from returns the history that is another one if a house holds the paper from a day on.
func (h history) from(day, house int) history {
	for later := day; later < len(h); later++ {
		h[later] = house
	}
	return h
}

// keeps reports whether a house holds the paper on all days of a term.
func (h history) keeps(house int, term api.Span) bool {
	return !slices.ContainsFunc(h[term.Lo:term.Hi+1], func(holder int) bool { return holder != house })
}

// histories returns all that a paper can have, each one once.
func (r register) histories(x api.Paper) map[history]bool {
	all := map[history]bool{}
	var on func(h history, left []api.Pass, since int)
	on = func(h history, left []api.Pass, since int) {
		if len(left) == 0 {
			all[h] = true
			return
		}
		for day := range r.Days {
			if day >= since && lists.Within(left[0].When, day) {
				on(h.from(day, left[0].To), left[1:], day)
			}
		}
	}
	for way := range r.ways(x) {
		on(history{}.from(0, x.Holder), way, 0)
	}
	return all
}

// holders returns the houses that can hold a paper on a day.
func (r register) holders(x api.Paper, day int) map[int]bool {
	houses := map[int]bool{x.Holder: false}
	for _, y := range r.passesOf(x.Id) {
		houses[y.To] = false
	}
	for h := range r.histories(x) {
		houses[h[day]] = true
	}
	for house, can := range houses {
		if !can {
			delete(houses, house)
		}
	}
	return houses
}

// isHeld tells what is known of whether a house holds a paper on a day.
func (r register) isHeld(x api.Paper, house, day int) uint8 {
	houses := r.holders(x, day)
	is := houses[house]
	delete(houses, house)
	return lists.Known(is, len(houses) > 0)
}

// holds returns how many papers a house holds on a day: what is written of one tells nothing of another one.
func (r register) holds(house, day int) api.Span {
	var s api.Span
	for _, x := range r.Papers.Papers {
		switch r.isHeld(x, house, day) {
		case api.KnownYes:
			s.Lo++
			s.Hi++
		case api.KnownOpen:
			s.Hi++
		}
	}
	return s
}
