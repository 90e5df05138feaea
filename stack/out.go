package stack

import (
	"cmp"
	"maps"
	"slices"

	"middling/api"
	"middling/lists"
)

// shape is a state by what counts if some bales are to be got out: where these are, and where others, the piles in any order.
type shape [api.MaxStacks]int

// shapeOf returns the shape of a state if some bales are to be got out, and whether none of these is left.
func shapeOf(s state, out []int) (shape, bool) {
	var k shape
	done := true
	for at, p := range s {
		for _, bale := range p {
			k[at] *= 3
			switch {
			case slices.Contains(out, bale):
				k[at] += 2
				done = false
			case bale != 0:
				k[at]++
			}
		}
	}
	slices.Sort(k[:])
	return k, done
}

// out returns the first one of the shortest lists of moves that get bales out, at last: false if there is none.
func (f floor) out(bales []int) ([]api.Move, bool) {
	var l []api.Move
	// How many moves it takes at least from a shape, by what was tried: it takes as many from each state of one.
	far := map[shape]int{}
	var gets func(s state, more int) bool
	gets = func(s state, more int) bool {
		k, done := shapeOf(s, bales)
		if done {
			return true
		}
		if more < far[k] {
			return false
		}
		far[k] = more + 1
		if more == 0 {
			return false
		}
		for m := range f.moves(s) {
			if m.To == 0 && !slices.Contains(bales, m.Bale) {
				continue
			}
			l = append(l, m)
			if gets(f.behind(s, m), more-1) {
				return true
			}
			l = l[:len(l)-1]
		}
		return false
	}
	s := f.last()
	// Each round allows one move more: if it comes to no shape that is new, there is no list.
	for n, known := 0, -1; len(far) > known; n++ {
		known = len(far)
		if gets(s, n) {
			return l, true
		}
	}
	return nil, false
}

// tally is a bale, and how many there are of something.
type tally struct{ bale, n int }

// worst returns the bale that takes the most moves to be got out alone: false if there is none.
func (f floor) worst() (tally, bool) {
	var l []tally
	for bale := range maps.Keys(f.there(api.MaxDays)) {
		if moves, ok := f.out([]int{bale}); ok {
			l = append(l, tally{bale, len(moves)})
		}
	}
	return lists.First(slices.Values(l), func(a, b tally) int {
		return cmp.Or(cmp.Compare(b.n, a.n), cmp.Compare(a.bale, b.bale))
	})
}
