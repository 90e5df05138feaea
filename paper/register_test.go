package paper

import (
	"slices"
	"testing"

	"middling/api"
	"middling/testhelp"
)

// back is a paper that goes from 5 to 6 and back, by so many passes, all on any day.
func back(passes int) register {
	p := api.Papers{Days: 3, Papers: []api.Paper{{Id: 1, Bale: 1, Holder: 5}}}
	for i := range passes {
		p.Passes = append(p.Passes, api.Pass{Number: i + 1, Paper: 1, From: 5 + i%2, To: 6 - i%2, When: api.Span{Hi: 2}})
	}
	return register{p}
}

// Ways may be left after any of them, come in order, and share no memory.
func TestWaysEndAnywhere(t *testing.T) {
	for passes, want := range []int{1, 1, 1, 2, 4, 12} {
		r := back(passes)
		ways := r.ways(r.paper(1))
		l := slices.Collect(ways)
		if len(l) != want || !testhelp.EndsAnywhere(ways, slices.Equal) {
			t.Error(passes, l)
		}
		if o := r.orders(r.paper(1)); !slices.IsSortedFunc(o, slices.Compare) || len(o) != want {
			t.Error(passes, o)
		}
		if passes > 0 && !testhelp.Apart(l, slices.Clone, slices.Equal, func(x []api.Pass) { testhelp.Spoil(x, api.Pass{Number: 77}) }) {
			t.Error(passes, l)
		}
	}
}

// The shortest terms of a pledge are those in which no other one lies, the longest one has all of them in it.
func TestTerms(t *testing.T) {
	s := func(lo, hi int) api.Span { return api.Span{Lo: lo, Hi: hi} }
	for i, x := range []struct {
		from, until, long api.Span
		all, short        []api.Span
	}{
		{s(3, 3), s(3, 3), s(3, 3), []api.Span{s(3, 3)}, []api.Span{s(3, 3)}},
		{s(1, 1), s(3, 4), s(1, 4), []api.Span{s(1, 3), s(1, 4)}, []api.Span{s(1, 3)}},
		{s(1, 2), s(3, 3), s(1, 3), []api.Span{s(1, 3), s(2, 3)}, []api.Span{s(2, 3)}},
		{s(0, 3), s(1, 2), s(0, 2), []api.Span{s(0, 1), s(0, 2), s(1, 1), s(1, 2), s(2, 2)}, []api.Span{s(1, 1), s(2, 2)}},
		{s(3, 9), s(0, 3), s(3, 3), []api.Span{s(3, 3)}, []api.Span{s(3, 3)}},
		{s(0, 2), s(0, 2), s(0, 2), []api.Span{s(0, 0), s(0, 1), s(0, 2), s(1, 1), s(1, 2), s(2, 2)}, []api.Span{s(0, 0), s(1, 1), s(2, 2)}},
	} {
		p := api.Pledge{From: x.from, Until: x.until}
		if l := longest(p); l != x.long {
			t.Error(i, l)
		}
		if l := terms(p); !slices.Equal(l, x.all) {
			t.Error(i, l)
		}
		if l := shortest(p); !slices.Equal(l, x.short) {
			t.Error(i, l)
		}
	}
}
