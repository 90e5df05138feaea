package mill

import (
	"cmp"
	"iter"
	"maps"
	"slices"

	"middling/api"
	"middling/core"
	"middling/lists"
)

// uneven is how far lengths differ in the lot in which they differ the most, and how far strengths do in the one in which these do.
type uneven struct{ length, strength int }

// compare is below 0 if u is more even than v, above 0 if it is less.
func (u uneven) compare(v uneven) int {
	return cmp.Or(cmp.Compare(u.length, v.length), cmp.Compare(u.strength, v.strength))
}

// far returns how far numbers differ.
func far(numbers ...int) int { return slices.Max(numbers) - slices.Min(numbers) }

// table is a valid mill at work, with the Ids of its bales that are fit.
type table struct {
	api.Mill
	fit map[int]bool
}

// lay returns the table of a mill.
func lay(m api.Mill) table {
	t := table{m, map[int]bool{}}
	for _, x := range t.Cottons {
		// Beside an error it is not known to be plain.
		plain, _ := core.Kind(x.Bale, api.KindPlain)
		t.fit[x.Bale.Id] = plain == api.KnownYes
	}
	for id, is := range t.fit {
		if !is {
			delete(t.fit, id)
		}
	}
	return t
}

// without returns the table in which a bale is not fit: its plans are those that leave it.
func (t table) without(bale int) table {
	t.fit = maps.Clone(t.fit)
	delete(t.fit, bale)
	return t
}

// isFit reports whether the bale with an index is fit.
func (t table) isFit(at int) bool { return t.fit[idOf(t.Cottons[at])] }

// hasPlan reports whether some plan is allowed.
func (t table) hasPlan() bool { return len(t.fit) >= t.Lots*t.Size }

// filled is how many bales are left, and behind it how many there are in each lot.
type filled [1 + api.MaxLots]int

// wants returns what is filled by each allowed plan.
func (t table) wants() filled {
	w := filled{len(t.Cottons) - t.Lots*t.Size}
	for lot := range t.Lots {
		w[1+lot] = t.Size
	}
	return w
}

// allows reports whether a plan is allowed.
func (t table) allows(plan []int) bool {
	if len(plan) != len(t.Cottons) || !lists.Within(api.Span{Lo: 0, Hi: t.Lots}, plan...) {
		return false
	}
	var full filled
	for at, lot := range plan {
		if lot > 0 && !t.isFit(at) {
			return false
		}
		full[lot]++
	}
	return full == t.wants()
}

// plans yields all allowed plans: of two, first the one in which the lot of the first bale that differs is less.
func (t table) plans() iter.Seq[[]int] {
	return func(yield func([]int) bool) {
		wants := t.wants()
		var put func(plan []int, full filled) bool
		put = func(plan []int, full filled) bool {
			if full == wants {
				return yield(plan)
			}
			at := len(plan)
		lots:
			for lot := range 1 + t.Lots {
				if full[lot] >= wants[lot] || lot > 0 && !t.isFit(at) {
					continue lots
				}
				more := full
				more[lot]++
				// Without capacity left each longer plan is new, and no two share memory.
				if !put(append(plan[:at:at], lot), more) {
					return false
				}
			}
			return true
		}
		if t.hasPlan() {
			put(nil, filled{})
		}
	}
}

// lots returns the bales of each lot of a plan, in increasing order of their Ids.
func (t table) lots(plan []int) [][]api.Cotton {
	lots := make([][]api.Cotton, t.Lots)
	for at, lot := range plan {
		if lot > 0 {
			lots[lot-1] = append(lots[lot-1], t.Cottons[at])
		}
	}
	return lots
}

// judged returns the unevenness of an allowed plan.
func (t table) judged(plan []int) uneven {
	var u uneven
	for _, l := range t.lots(plan) {
		u.length = max(u.length, far(lists.Numbers(l, lengthOf)...))
		u.strength = max(u.strength, far(lists.Numbers(l, strengthOf)...))
	}
	return u
}

// evener returns the order in which plans that are more even come first.
func evener(judged func(plan []int) uneven) func(a, b []int) int {
	return func(a, b []int) int { return judged(a).compare(judged(b)) }
}

// best returns the best plan, if there is one.
func (t table) best() []int {
	plan, _ := lists.First(t.plans(), evener(t.judged))
	return plan
}

// even returns the unevenness of the best plan; there is one.
func (t table) even() uneven { return t.judged(t.best()) }

// needs returns the bales without which the best plan is less even, or none is allowed.
func (t table) needs() []int {
	var l []int
	u := t.even()
	for at := range len(t.Cottons) {
		id := idOf(t.Cottons[at])
		if left := t.without(id); !left.hasPlan() || left.even() != u {
			l = append(l, id)
		}
	}
	return l
}

// most returns how many lots there can be in which lengths differ by no more than so much.
func (t table) most(length int) int {
	var l []int
	for at := range len(t.Cottons) {
		if t.isFit(at) {
			l = append(l, t.Cottons[at].Length)
		}
	}
	slices.Sort(l)
	lots := 0
	for at := 0; at+t.Size <= len(l); {
		// If the shortest bale that is left can be in a lot, it may be in one with those next to it: a lot that would have had one of these can have a longer one instead.
		if far(l[at:at+t.Size]...) <= length {
			lots, at = lots+1, at+t.Size
		} else {
			at++
		}
	}
	return lots
}
