package fire

import (
	"slices"
	"testing"

	"middling/api"
	"middling/testhelp"
)

// sceneOf has stacks from 1 on, in the first of which it began in the minute 10 or 11, gaps and glances.
func sceneOf(stacks int, gaps []api.Gap, glances ...api.Glance) scene {
	b := api.Blaze{Books: api.Papers{Days: 1}, Begins: []int{1}, Start: api.Span{Lo: 10, Hi: 11}, Gaps: gaps, Glances: glances}
	for n := range stacks {
		b.House.Stacks = append(b.House.Stacks, api.Stack{Id: n + 1, Row: 1})
	}
	return begin(b)
}

func gapOf(a, b, lo, hi int) api.Gap {
	return api.Gap{A: a, B: b, Minutes: api.Span{Lo: lo, Hi: hi}}
}

func alike(a, b course) bool {
	return a.began == b.began && slices.Equal(a.took, b.took) && a.caught == b.caught
}

// Minutes of gaps, truths and looks come in order, may be left after any of them, and end.
func TestIterators(t *testing.T) {
	s := sceneOf(3, []api.Gap{gapOf(1, 2, 3, 5), gapOf(2, 3, 1, 2)}, api.Glance{Number: 1, Stack: 2, Minute: 14, Burns: true})
	if l, want := slices.Collect(s.ways()), [][]int{{3, 1}, {3, 2}, {4, 1}, {4, 2}, {5, 1}, {5, 2}}; !slices.EqualFunc(l, want, slices.Equal) {
		t.Error(l)
	}
	if l := slices.Collect(s.courses()); len(l) != 12 || !slices.EqualFunc(l, slices.Collect(s.truths(nil)), alike) {
		t.Error(l)
	}
	if l := slices.Collect(s.all()); len(l) != 6 || slices.ContainsFunc(l, func(x course) bool { return x.caught[1] > 14 }) {
		t.Error(l)
	}
	if l := slices.Collect(s.looks(12)); !slices.Equal(l, []look{{1, 1}, {2, 1}, {3, 1}}) {
		t.Error(l)
	}
	if !testhelp.EndsAnywhere(s.ways(), slices.Equal) || !testhelp.EndsAnywhere(s.courses(), alike) || !testhelp.EndsAnywhere(s.truths(nil), alike) || !testhelp.EndsAnywhere(s.all(), alike) || !testhelp.EndsAnywhere(s.looks(12), func(a, b look) bool { return a == b }) {
		t.Error(s)
	}
}

// No two lists of minutes share memory.
func TestWaysAreApart(t *testing.T) {
	s := sceneOf(4, []api.Gap{gapOf(1, 2, 3, 5), gapOf(1, 3, 0, 2), gapOf(2, 3, 1, 2), gapOf(3, 4, 1, 3)})
	l := slices.Collect(s.ways())
	if len(l) != 54 || !testhelp.Apart(l, slices.Clone[[]int], slices.Equal, func(x []int) { testhelp.Spoil(x, 77) }) {
		t.Error(l)
	}
}

// Without gaps there is one way, on which only where it began catches.
func TestNoGaps(t *testing.T) {
	s := sceneOf(2, nil)
	if l := slices.Collect(s.ways()); len(l) != 1 || len(l[0]) != 0 {
		t.Error(l)
	}
	if l := slices.Collect(s.all()); len(l) != 2 || l[0].caught[0] != 10 || l[1].caught[0] != 11 || l[0].caught[1] < never || l[1].caught[1] < never {
		t.Error(l)
	}
}

// Fire goes either way over gaps, by the nearest way, whatever the order of the gaps is.
func TestNearest(t *testing.T) {
	s := sceneOf(5, []api.Gap{gapOf(1, 3, 9, 9), gapOf(1, 4, 1, 1), gapOf(2, 3, 2, 2), gapOf(2, 4, 3, 3)})
	for _, x := range []struct {
		began int
		want  minutes
	}{{1, minutes{0, 4, 6, 1, never}}, {2, minutes{4, 0, 2, 3, never}}, {3, minutes{6, 2, 0, 5, never}}, {4, minutes{1, 3, 5, 0, never}}, {5, minutes{never, never, never, never, 0}}} {
		if m := s.nearest(x.began, []int{9, 1, 2, 3}); m != x.want {
			t.Error(x.began, m)
		}
	}
	// The farthest of all: never is later.
	s = sceneOf(5, []api.Gap{gapOf(1, 2, 60, 60), gapOf(2, 3, 60, 60), gapOf(3, 4, 60, 60), gapOf(4, 5, 60, 60)})
	if m := s.nearest(1, []int{60, 60, 60, 60}).later(api.MaxSpark); m != (minutes{600, 660, 720, 780, 840}) || m[4] >= never {
		t.Error(m)
	}
}
