package stack

import (
	"slices"

	"middling/api"
)

// shows reports whether all that was seen is so in a state.
func (f floor) shows(s state, seen []api.Seen) bool {
	for at, x := range f.Stacks {
		for _, y := range seen {
			if y.Stack == x.Id && s[at][y.High-1] != y.Bale {
				return false
			}
		}
	}
	return true
}

// onwards returns the states behind one move more, of bales on top.
func (f floor) onwards(states []state) []state {
	var l []state
	for _, s := range states {
		for m := range f.moves(s) {
			l = append(l, f.behind(s, m))
		}
	}
	return l
}

// shown is states in which something was seen, behind so many moves that were not written.
type shown struct {
	states []state
	moves  int
}

// unseen returns the states behind the fewest moves with which all that was seen is so: false if there are too many.
func (f floor) unseen(seen []api.Seen) (shown, bool) {
	states := []state{f.last()}
	for n := 0; ; n++ {
		so := slices.DeleteFunc(slices.Clone(states), func(s state) bool { return !f.shows(s, seen) })
		if len(so) > 0 {
			return shown{so, n}, true
		}
		if n == api.MaxUnseen {
			return shown{}, false
		}
		states = f.onwards(states)
	}
}

// may returns the Ids of the stacks in which a bale is in some states, in increasing order: 0, if it is in none in one of them, first.
func (f floor) may(states []state, bale int) []int {
	var l []int
	for _, s := range states {
		id, _ := f.where(s, bale)
		l = append(l, id)
	}
	slices.Sort(l)
	return slices.Compact(l)
}
