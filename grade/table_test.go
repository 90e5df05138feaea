package grade

import (
	"iter"
	"slices"
	"testing"

	"middling/api"
)

// endsAnywhere tests that a loop over things may end after any of them.
func endsAnywhere[T comparable](t *testing.T, things iter.Seq[T]) {
	all := slices.Collect(things)
	for n := range all {
		var l []T
		for x := range things {
			l = append(l, x)
			if len(l) == n+1 {
				break
			}
		}
		if !slices.Equal(l, all[:n+1]) {
			t.Error(n, l)
		}
	}
}

func TestLoopsEndAnywhere(t *testing.T) {
	d := api.Desk{
		Room:     api.Room{Months: 1, Ages: []api.Span{{}}, Boxes: []api.Box{{Id: 1}}},
		Lean:     5,
		Bales:    []int{3, 4},
		Classers: []int{7, 8},
		Looks:    []api.Look{{Number: 1, Classer: 7, Bale: 4, Box: 1, Said: 5}, {Number: 2, Classer: 8, Bale: 3, Box: 1, Said: 2}},
	}
	v := lay(d).seen()
	endsAnywhere(t, v.differences())
	endsAnywhere(t, v.choices(api.Span{}))
	if l := slices.Collect(v.differences()); len(l) != 6 {
		t.Error(l)
	}
	if l := slices.Collect(v.choices(api.Span{})); len(l) != 4 {
		t.Error(l)
	}
}
