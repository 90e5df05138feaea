package core

import (
	"slices"
	"testing"

	"middling/api"
	"middling/testhelp"
)

// Truths may be left after any of them, and share no memory.
func TestTruthsEndAnywhere(t *testing.T) {
	b := api.Bale{Id: 1, Layers: api.MaxLayers, Dry: api.Span{Lo: 1, Hi: 1}}
	for at := range b.Layers {
		// Layers with an odd number show two grades.
		b.Draws = append(b.Draws, api.Draw{Number: at + 1, Layer: at, Grade: api.Span{Lo: at + 2, Hi: at + 2 + at%2}})
	}
	p := pressed(b)
	want := [][]int{{2, 3, 4, 5, 6}, {2, 3, 4, 6, 6}, {2, 4, 4, 5, 6}, {2, 4, 4, 6, 6}}
	if l := slices.Collect(p.truths()); !slices.EqualFunc(l, want, slices.Equal) {
		t.Error(l)
	}
	if !testhelp.EndsAnywhere(p.truths(), slices.Equal) {
		t.Error(p)
	}
	for layers := 1; layers <= api.MaxLayers; layers++ {
		b.Layers, b.Draws = layers, b.Draws[:0]
		for at := range layers {
			b.Draws = append(b.Draws, api.Draw{Number: at + 1, Layer: at, Grade: api.Span{Lo: 5, Hi: 6}})
		}
		l := slices.Collect(pressed(b).truths())
		if len(l) != 1<<layers || !testhelp.Apart(l, slices.Clone, slices.Equal, func(x []int) { testhelp.Spoil(x, 77) }) {
			t.Error(layers, l)
		}
	}
}
