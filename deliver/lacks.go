package deliver

import (
	"cmp"
	"maps"
	"slices"

	"middling/api"
	"middling/lists"
)

// Lacks returns the deals that lack the most (P5.5).
func Lacks(y api.Yard) (deals []int, bales int, e api.Errno) {
	t, e := open(y, about{})
	if e != api.OK {
		return nil, 0, e
	}
	lacks := t.lacks()
	s, ok := lists.First(maps.Keys(lacks), func(a, b set) int {
		l, m := t.ids(a), t.ids(b)
		return cmp.Or(cmp.Compare(lacks[b], lacks[a]), cmp.Compare(len(l), len(m)), slices.Compare(l, m))
	})
	if !ok {
		return nil, 0, api.ErrNone
	}
	return t.ids(s), lacks[s], api.OK
}

// set is some deals: bit by bit, whether the one with this index is one of them.
type set uint

func (s set) has(j int) bool { return s>>j&1 == 1 }

// ids returns the Ids of the deals of a set, in increasing order.
func (t table) ids(s set) []int {
	var l []int
	for j, d := range t.Deals {
		if s.has(j) {
			l = append(l, d.Id)
		}
	}
	return l
}

// lacks returns by how much each set of deals that lacks something does.
func (t table) lacks() map[set]int {
	l := map[set]int{}
	for s := range set(1) << len(t.Deals) {
		l[s] = t.bales(s) - t.fit(s)
	}
	for s, n := range l {
		if n <= 0 {
			delete(l, s)
		}
	}
	return l
}

// bales returns how many Bales the deals of a set have together.
func (t table) bales(s set) int {
	n := 0
	for j, d := range t.Deals {
		if s.has(j) {
			n += d.Terms.Bales
		}
	}
	return n
}

// fit returns how many wares may go to one of the deals of a set.
func (t table) fit(s set) int {
	n := 0
wares:
	for i := range len(t.Wares) {
		for j := range len(t.Deals) {
			if s.has(j) && t.may(i, j) {
				n++
				continue wares
			}
		}
	}
	return n
}
