package fire

import (
	"iter"
	"slices"

	"middling/api"
	"middling/lists"
	"middling/paper"
	"middling/stack"
)

// never is later than fire comes anywhere; whatever is added to it stays so.
const never = api.MaxSpark + api.MaxStacks*api.MaxSlow + 1

// minutes is in which one each stack caught, in the order of the stacks: from never on if it did not.
type minutes [api.MaxStacks]int

// course is how a fire can have gone: where it began, how many minutes it took over each gap, and when each stack caught.
type course struct {
	began  int
	took   []int
	caught minutes
}

// had reports whether the stack in a place had caught in a minute or before it.
func (x course) had(place, minute int) bool { return x.caught[place] <= minute }

// scene is a valid blaze at work: the stacks on its Day, and how the fire can have gone if it began in the minute 0.
type scene struct {
	api.Blaze
	stacks []api.Stack
	spread []course
}

// begin returns the scene of a valid blaze.
func begin(b api.Blaze) scene {
	s := scene{Blaze: b}
	// The House of a valid blaze is valid, and its Day is a day: there is no error.
	s.stacks, _ = stack.At(b.House, b.Day)
	for took := range s.ways() {
		for _, began := range s.Begins {
			s.spread = append(s.spread, course{began, took, s.nearest(began, took)})
		}
	}
	return s
}

// place returns where a stack is among all.
func (s scene) place(id int) int {
	return slices.IndexFunc(s.stacks, func(x api.Stack) bool { return x.Id == id })
}

// ways yields how many minutes the fire can take over each gap.
func (s scene) ways() iter.Seq[[]int] {
	return func(yield func([]int) bool) {
		var choose func(took []int) bool
		choose = func(took []int) bool {
			at := len(took)
			if at == len(s.Gaps) {
				return yield(took)
			}
			for n := s.Gaps[at].Minutes.Lo; n <= s.Gaps[at].Minutes.Hi; n++ {
				// Without capacity left each longer list is new, and no two share memory.
				if !choose(append(took[:at:at], n)) {
					return false
				}
			}
			return true
		}
		choose(nil)
	}
}

// nearest returns how many minutes the fire takes to each stack, by its nearest way from where it began.
func (s scene) nearest(began int, took []int) minutes {
	var m minutes
	for at := range m {
		m[at] = never
	}
	m[s.place(began)] = 0
	for {
		next := s.over(m, took)
		if next == m {
			return m
		}
		m = next
	}
}

// over returns how many minutes the fire takes to each stack if it goes over each gap once more.
func (s scene) over(m minutes, took []int) minutes {
	for at := range len(s.Gaps) {
		a, b := s.place(s.Gaps[at].A), s.place(s.Gaps[at].B)
		m[a] = min(m[a], m[b]+took[at])
		m[b] = min(m[b], m[a]+took[at])
	}
	return m
}

// later returns so many minutes more for each stack.
func (m minutes) later(more int) minutes {
	for at := range m {
		m[at] += more
	}
	return m
}

// courses yields how the fire can have gone if nothing was seen.
func (s scene) courses() iter.Seq[course] {
	return func(yield func(course) bool) {
		for _, x := range s.spread {
			for minute := s.Start.Lo; minute <= s.Start.Hi; minute++ {
				if !yield(course{x.began, x.took, x.caught.later(minute)}) {
					return
				}
			}
		}
	}
}

// truths yields the courses that are as some glances say.
func (s scene) truths(glances []api.Glance) iter.Seq[course] {
	return func(yield func(course) bool) {
	courses:
		for x := range s.courses() {
			for _, g := range glances {
				if x.had(s.place(g.Stack), g.Minute) != g.Burns {
					continue courses
				}
			}
			if !yield(x) {
				return
			}
		}
	}
}

// all yields the courses that are as all glances say.
func (s scene) all() iter.Seq[course] { return s.truths(s.Glances) }

// spares reports whether there is a truth of the fire without some glances.
func (s scene) spares(out []api.Glance) bool {
	for range s.truths(lists.Except(s.Glances, out)) {
		return true
	}
	return false
}

// can reports whether there is a truth.
func (s scene) can() bool {
	// The Books of a valid blaze are valid: there is no error.
	is, _ := paper.Can(s.Books)
	return is && s.spares(nil)
}

// known tells what is known of something that is so in truths, or not.
func (s scene) known(is func(course) bool) uint8 {
	so, not := false, false
	for x := range s.all() {
		if is(x) {
			so = true
		} else {
			not = true
		}
	}
	return lists.Known(so, not)
}

// ends returns a number of truths, at least and at most, of those that have one: false if there are none.
func (s scene) ends(number func(course) (int, bool)) (api.Span, bool) {
	var ends api.Span
	some := false
	for x := range s.all() {
		n, is := number(x)
		switch {
		case is && some:
			ends = api.Span{Lo: min(ends.Lo, n), Hi: max(ends.Hi, n)}
		case is:
			ends, some = api.Span{Lo: n, Hi: n}, true
		}
	}
	return ends, some
}
