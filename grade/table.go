package grade

import (
	"iter"
	"maps"
	"slices"

	"middling/api"
	"middling/box"
	"middling/lists"
)

// worst is the greatest number of points.
const worst = api.MaxGrade*api.Wide - 1

// gradeOf returns the grade of a number.
func gradeOf(n int) int { return min(max(n, 0)/api.Wide+1, api.MaxGrade) }

// grades returns what can be said of points that are, with the lean, a number within sums, beside a box that has yellowed by one within yellow.
// Numbers that follow each other have one grade, or grades that follow each other, so that each grade between comes about.
func grades(sums, yellow api.Span) api.Span {
	return api.Span{Lo: gradeOf(sums.Lo - yellow.Hi), Hi: gradeOf(sums.Hi - yellow.Lo)}
}

// table is a valid desk at work, whose Room has a truth: with the bounds of the looks that count, by their Numbers.
type table struct {
	api.Desk
	bounds map[int]api.Span
}

// lay returns the table of a desk.
func lay(d api.Desk) table {
	t := table{d, map[int]api.Span{}}
	for _, x := range d.Looks {
		t.bounds[x.Number] = t.sums(x.Said, yellowed(d.Room, place{x.Month, x.Box}))
	}
	return t
}

// yellowed returns by how much a box has yellowed in a month.
func yellowed(r api.Room, p place) api.Span {
	s, _ := box.Yellow(r, p.box, p.month)
	return s
}

// sums returns the least and the greatest number that points and lean can be together if a grade is said: Lo above Hi if no number is so.
func (t table) sums(said int, yellow api.Span) api.Span {
	s := api.Span{Lo: worst + t.Lean + 1, Hi: -t.Lean - 1}
	for i := range worst + 2*t.Lean + 1 {
		n := i - t.Lean
		if lists.Within(grades(api.Span{Lo: n, Hi: n}, yellow), said) {
			s = api.Span{Lo: min(s.Lo, n), Hi: max(s.Hi, n)}
		}
	}
	return s
}

// with returns the table with a look more, and its bounds.
func (t table) with(x api.Look, bounds api.Span) table {
	t.Looks = append(slices.Clone(t.Looks), x)
	t.bounds = maps.Clone(t.bounds)
	t.bounds[x.Number] = bounds
	return t
}

// without returns the table on which the looks that are out do not count.
func (t table) without(out func(api.Look) bool) table {
	t.bounds = maps.Clone(t.bounds)
	for _, x := range t.Looks {
		if out(x) {
			delete(t.bounds, x.Number)
		}
	}
	return t
}

// size is how many numbers there are, at most: 0, then the points of each bale, then the lean of each classer with its sign turned, so that each look bounds what two of them differ by.
const size = 1 + api.MaxWork + api.MaxClassers

// bale returns the index of a bale's points.
func (t table) bale(id int) int { return 1 + slices.Index(t.Bales, id) }

// classer returns the index of a classer's lean.
func (t table) classer(id int) int { return 1 + api.MaxWork + slices.Index(t.Classers, id) }

// bound says that the number with the index a, less the one with the index b, is within by.
type bound struct {
	a, b int
	by   api.Span
}

// differences yields all that makes a truth: points, leans, then looks.
func (t table) differences() iter.Seq[bound] {
	return func(yield func(bound) bool) {
		for _, id := range t.Bales {
			if !yield(bound{t.bale(id), 0, api.Span{Lo: 0, Hi: worst}}) {
				return
			}
		}
		for _, id := range t.Classers {
			if !yield(bound{0, t.classer(id), api.Span{Lo: -t.Lean, Hi: t.Lean}}) {
				return
			}
		}
		for _, x := range t.Looks {
			if s, ok := t.bounds[x.Number]; ok && !yield(bound{t.bale(x.Bale), t.classer(x.Classer), s}) {
				return
			}
		}
	}
}

// far is more than any two numbers can differ by.
const far = 1 << 20

// view is a table with what is known by it: by how much each number is above each other one, at most, if there is a truth.
type view struct {
	table
	above [size][size]int
	can   bool
}

// seen returns the view of a table.
func (t table) seen() view {
	v := view{table: t}
	for i := range size {
		for j := range size {
			if i != j {
				v.above[i][j] = far
			}
		}
	}
	for x := range t.differences() {
		v.above[x.a][x.b] = min(v.above[x.a][x.b], x.by.Hi)
		v.above[x.b][x.a] = min(v.above[x.b][x.a], -x.by.Lo)
	}
	v.can = v.settle()
	return v
}

// settle lets each two numbers differ by no more than they can by way of others: false if there is no truth.
// Then some number would have to be below itself; to go on by way of it would take all that are around it down again and again.
func (v *view) settle() bool {
	for k := range size {
		if v.above[k][k] < 0 {
			return false
		}
		for i := range size {
			for j := range size {
				v.above[i][j] = min(v.above[i][j], v.above[i][k]+v.above[k][j])
			}
		}
	}
	return true
}

// differ returns what the number with the index a is, less the one with the index b, in all truths; there is one.
func (v view) differ(a, b int) api.Span { return api.Span{Lo: -v.above[b][a], Hi: v.above[a][b]} }

// points returns those of a bale.
func (v view) points(bale int) api.Span { return v.differ(v.bale(bale), 0) }

// lean returns that of a classer.
func (v view) lean(classer int) api.Span { return v.differ(0, v.classer(classer)) }

// says returns what a classer can say of a bale beside a box that has yellowed by so much.
func (v view) says(classer, bale int, yellow api.Span) api.Span {
	return grades(v.differ(v.bale(bale), v.classer(classer)), yellow)
}

// leans returns to which side a classer surely leans, or 0.
func (v view) leans(classer int) int {
	switch s := v.lean(classer); {
	case s.Lo > 0:
		return 1
	case s.Hi < 0:
		return -1
	}
	return 0
}
