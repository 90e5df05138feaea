package river

import (
	"slices"
	"testing"

	"middling/api"
	"middling/testhelp"
)

// rescueOf has stacks of some bales in the row 1, levels that are reached in 9 minutes, and gangs.
func rescueOf(gangs []api.Gang, piles ...[]int) rescue {
	f := api.Flood{Gangs: gangs, Levels: slices.Repeat([]api.Span{{Lo: 9, Hi: 9}}, api.MaxLevels)}
	for i, l := range piles {
		f.House.Stacks = append(f.House.Stacks, api.Stack{Id: i + 1, Row: 1, Bales: l})
	}
	for bale := range 20 {
		f.House.Owners = append(f.House.Owners, api.Owned{Bale: bale + 1, Owner: 1})
		f.Worths = append(f.Worths, api.Worth{Bale: bale + 1, Pence: 1})
	}
	return begin(f)
}

// Loads, and bales on top, come in order, may be left after any of them, and end.
func TestIterators(t *testing.T) {
	r := rescueOf([]api.Gang{{Id: 2, Comes: 0, Takes: 3}, {Id: 5, Comes: 4, Takes: 2}, {Id: 7, Comes: 600, Takes: 60}}, []int{1, 2, 3}, nil, []int{4}, []int{5, 6})
	if l, want := slices.Collect(r.loads()), []api.Load{{Gang: 2, Minute: 3}, {Gang: 2, Minute: 6}, {Gang: 5, Minute: 6}, {Gang: 5, Minute: 8}, {Gang: 2, Minute: 9}, {Gang: 5, Minute: 10}}; !slices.Equal(l, want) {
		t.Error(l)
	}
	for _, x := range []struct {
		g    gone
		want []taken
	}{
		{gone{}, []taken{{3, gone{1}}, {4, gone{0, 0, 1}}, {6, gone{0, 0, 0, 1}}}}, {gone{2, 0, 0, 1}, []taken{{1, gone{3, 0, 0, 1}}, {4, gone{2, 0, 1, 1}}, {5, gone{2, 0, 0, 2}}}}, {gone{3, 0, 0, 0}, []taken{{4, gone{3, 0, 1}}, {6, gone{3, 0, 0, 1}}}}, {gone{3, 0, 1, 2}, nil},
	} {
		if l := slices.Collect(r.tops(x.g)); !slices.Equal(l, x.want) {
			t.Error(x.g, l)
		}
		same := func(a, b taken) bool { return a == b }
		if !testhelp.EndsAnywhere(r.tops(x.g), same) || !testhelp.EndsAnywhere(r.next(x.g, r.all().away), same) {
			t.Error(x.g)
		}
	}
	if !testhelp.EndsAnywhere(r.loads(), func(a, b api.Load) bool { return a == b }) {
		t.Error(r)
	}
}

// Without gangs there are no loads, and without bales.
func TestNoLoads(t *testing.T) {
	for i, r := range []rescue{rescueOf(nil, []int{1}), rescueOf([]api.Gang{{Id: 1, Takes: 1}}, nil, nil)} {
		if l := slices.Collect(r.loads()); len(l) > 0 {
			t.Error(i, l)
		}
		// What is not away saves nothing: the river has reached each level then.
		if n := r.all().away(0); n != api.MaxMinute {
			t.Error(i, n)
		}
	}
}

// A load is away in its minute, by how many are before it; by a minute there are fewer.
func TestAway(t *testing.T) {
	r := rescueOf([]api.Gang{{Id: 1, Comes: 1, Takes: 2}}, []int{1, 2, 3})
	for i, x := range []struct{ by, before, want int }{{600, 0, 3}, {600, 1, 5}, {600, 2, 7}, {600, 3, 600}, {5, 1, 5}, {5, 2, 600}, {4, 1, 600}, {2, 0, 600}} {
		if n := r.by(x.by).away(x.before); n != x.want {
			t.Error(i, n)
		}
	}
}

// R3: what one gang more adds is not kept for the flood.
func TestAddsIsApart(t *testing.T) {
	gangs := append(make([]api.Gang, 0, 4), api.Gang{Id: 5, Comes: 0, Takes: 5})
	r := rescueOf(gangs, []int{1, 2, 3})
	if n := r.adds(api.Gang{Id: 1, Comes: 0, Takes: 4}); n != 2 {
		t.Error(n)
	}
	if n := r.saved(api.MaxMinute); n != 1 || len(r.Gangs) != 1 || gangs[0].Id != 5 || gangs[:2][1] != (api.Gang{}) {
		t.Error(n, gangs[:4])
	}
}
