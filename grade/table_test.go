package grade

import (
	"slices"
	"testing"

	"middling/api"
	"middling/testhelp"
)

func equal[T comparable](a, b T) bool { return a == b }

func TestLoopsEndAnywhere(t *testing.T) {
	d := api.Desk{
		Room:     api.Room{Months: 1, Ages: []api.Span{{}}, Boxes: []api.Box{{Id: 1}}},
		Lean:     5,
		Bales:    []int{3, 4},
		Classers: []int{7, 8},
		Looks:    []api.Look{{Number: 1, Classer: 7, Bale: 4, Box: 1, Said: 5}, {Number: 2, Classer: 8, Bale: 3, Box: 1, Said: 2}},
	}
	v := lay(d).seen()
	if !testhelp.EndsAnywhere(v.differences(), equal) || !testhelp.EndsAnywhere(v.choices(api.Span{}), equal) {
		t.Error(v)
	}
	if l := slices.Collect(v.differences()); len(l) != 6 {
		t.Error(l)
	}
	if l := slices.Collect(v.choices(api.Span{})); len(l) != 4 {
		t.Error(l)
	}
}
