package river

import (
	"cmp"
	"iter"
	"slices"

	"middling/api"
	"middling/lists"
)

// loads yields those of all gangs in order, as many as there are bales.
func (r rescue) loads() iter.Seq[api.Load] {
	return func(yield func(api.Load) bool) {
		var next []api.Load
		for _, g := range r.Gangs {
			next = append(next, api.Load{Gang: g.Id, Minute: g.Comes + g.Takes})
		}
		for range len(r.pence) {
			x, ok := lists.First(slices.Values(next), func(a, b api.Load) int {
				return cmp.Or(cmp.Compare(a.Minute, b.Minute), cmp.Compare(a.Gang, b.Gang))
			})
			if !ok || !yield(x) {
				return
			}
			at := slices.Index(next, x)
			next[at].Minute += r.Gangs[at].Takes
		}
	}
}

// carts are loads, in order.
type carts []api.Load

// away returns the minute in which a load is away, by how many are before it: if there is none, the last minute of all, in which nothing is saved any more.
func (c carts) away(before int) int {
	if before >= len(c) {
		return api.MaxMinute
	}
	return c[before].Minute
}

// by returns all loads by a minute.
func (r rescue) by(minute int) carts {
	var c carts
	for x := range r.loads() {
		if x.Minute > minute {
			break
		}
		c = append(c, x)
	}
	return c
}

// all returns all loads by which something can be saved.
func (r rescue) all() carts { return r.by(api.MaxMinute) }
