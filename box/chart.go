package box

import (
	"iter"
	"slices"

	"middling/api"
	"middling/lists"
)

// place is a box in a month; the zero value is what has not yellowed at all.
type place struct{ box, month int }

// chart is a valid room at work, with its places: first the zero value, then box by box, month by month.
type chart struct {
	api.Room
	places []place
}

// draw returns the chart of a room that is valid.
func draw(r api.Room) chart {
	l := []place{{}}
	for _, b := range r.Boxes {
		for age := range r.Months - b.Made {
			l = append(l, place{b.Id, b.Made + age})
		}
	}
	return chart{r, l}
}

// at returns the index of a place.
func (c chart) at(box, month int) int { return slices.Index(c.places, place{box, month}) }

// bound says that what the place with the index a has, less what that with the index b has, is within by.
type bound struct {
	a, b int
	by   api.Span
}

// bounds yields all that makes a truth: ages, then what boxes grow by, then matches.
func (c chart) bounds() iter.Seq[bound] {
	return func(yield func(bound) bool) {
		for _, x := range c.Boxes {
			made := c.at(x.Id, x.Made)
			for age := range c.Months - x.Made {
				if !yield(bound{made + age, 0, c.Ages[age]}) {
					return
				}
			}
		}
		for i, p := range c.places[1:] {
			if c.places[i] == (place{p.box, p.month - 1}) && !yield(bound{i + 1, i, api.Span{Lo: 0, Hi: c.Step}}) {
				return
			}
		}
		for _, m := range c.Matches {
			if !yield(bound{c.at(m.A, m.Month), c.at(m.B, m.Month), m.By}) {
				return
			}
		}
	}
}

// far is more than any two places can differ by.
const far = 1 << 20

// most returns by how much each place can be more yellow than one of them, at most: false if there is no truth.
// Ages bind each place to the zero value, so that all are reached from each one.
func (c chart) most(from place) ([]int, bool) {
	l := slices.Repeat([]int{far}, len(c.places))
	l[c.at(from.box, from.month)] = 0
	// A way from one place to another one has fewer steps than there are places: what is
	// not settled after so many rounds goes in a circle that cannot be.
rounds:
	for range c.places {
		for x := range c.bounds() {
			l[x.a] = min(l[x.a], l[x.b]+x.by.Hi)
			l[x.b] = min(l[x.b], l[x.a]-x.by.Lo)
		}
		for x := range c.bounds() {
			if !lists.Within(x.by, l[x.a]-l[x.b]) {
				continue rounds
			}
		}
		return l, true
	}
	return nil, false
}

// can reports whether there is a truth.
func (c chart) can() bool {
	_, ok := c.most(place{})
	return ok
}

// differ returns what a has, less what b has, in all truths; there is one.
func (c chart) differ(a, b place) api.Span {
	up, _ := c.most(b)
	down, _ := c.most(a)
	return api.Span{Lo: -down[c.at(b.box, b.month)], Hi: up[c.at(a.box, a.month)]}
}

// yellow returns what a place has yellowed, in all truths.
func (c chart) yellow(p place) api.Span { return c.differ(p, place{}) }

// there returns the Ids of the boxes that are there in a month.
func (c chart) there(month int) []int {
	var l []int
	for _, p := range c.places[1:] {
		if p.month == month {
			l = append(l, p.box)
		}
	}
	return l
}

// first returns the first month in which what a box has yellowed is so.
func (c chart) first(box int, so func(api.Span) bool) (int, bool) {
	for m := range c.Months {
		if c.at(box, m) >= 0 && so(c.yellow(place{box, m})) {
			return m, true
		}
	}
	return 0, false
}

// without returns the chart without the matches that go out.
func (c chart) without(out func(api.Match) bool) chart {
	c.Matches = slices.DeleteFunc(slices.Clone(c.Matches), out)
	return c
}
