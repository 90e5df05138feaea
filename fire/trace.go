package fire

import (
	"cmp"
	"iter"
	"maps"
	"slices"

	"middling/api"
	"middling/lists"
)

// caught returns the minute in which a stack caught, at least and at most: false if it never did.
func (s scene) caught(stack int) (api.Span, bool) {
	at := s.place(stack)
	return s.ends(func(x course) (int, bool) { return x.caught[at], x.caught[at] < never })
}

// hadCaught tells what is known of whether a stack had caught in a minute or before it.
func (s scene) hadCaught(stack, minute int) uint8 {
	at := s.place(stack)
	return s.known(func(x course) bool { return x.had(at, minute) })
}

// before tells what is known of whether one stack caught before another one.
func (s scene) before(one, other int) uint8 {
	a, b := s.place(one), s.place(other)
	return s.known(func(x course) bool { return x.caught[a] < x.caught[b] })
}

// gap returns where the gap of two stacks is among all: false if there is none.
func (s scene) gap(a, c int) (int, bool) {
	for at := range len(s.Gaps) {
		x := s.Gaps[at]
		if x == (api.Gap{A: min(a, c), B: max(a, c), Minutes: x.Minutes}) {
			return at, true
		}
	}
	return 0, false
}

// took returns how many minutes the fire takes over the gap of two stacks, at least and at most: false if there is none.
func (s scene) took(a, c int) (api.Span, bool) {
	at, is := s.gap(a, c)
	if !is {
		return api.Span{}, false
	}
	return s.ends(func(x course) (int, bool) { return x.took[at], true })
}

// begins returns the stacks in which the fire began in truths of which something is so, in increasing order.
func (s scene) begins(is func(course) bool) []int {
	ids := map[int]bool{}
	for x := range s.all() {
		if is(x) {
			ids[x.began] = true
		}
	}
	return slices.Sorted(maps.Keys(ids))
}

// began returns the stacks in which the fire can have begun, in increasing order.
func (s scene) began() []int { return s.begins(func(course) bool { return true }) }

// look is one at a stack, and in how many stacks the fire can have begun at worst, by what is seen.
type look struct{ stack, left int }

// looks yields those at all stacks in a minute.
func (s scene) looks(minute int) iter.Seq[look] {
	return func(yield func(look) bool) {
		for at, x := range s.stacks {
			burns := s.begins(func(x course) bool { return x.had(at, minute) })
			not := s.begins(func(x course) bool { return !x.had(at, minute) })
			if !yield(look{x.Id, max(len(burns), len(not))}) {
				return
			}
		}
	}
}

// ask returns the look in a minute that tells most.
func (s scene) ask(minute int) look {
	x, _ := lists.First(s.looks(minute), func(a, b look) int {
		return cmp.Or(cmp.Compare(a.left, b.left), cmp.Compare(a.stack, b.stack))
	})
	return x
}
