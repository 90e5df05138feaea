package terms

import (
	"cmp"
	"iter"

	"middling/api"
	"middling/lists"
)

// offer is valid terms at work.
type offer struct{ api.Terms }

// value returns that of a class.
func (o offer) value(c api.Class) int {
	return o.Price + o.Grades[c.Grade-1] + o.Staples[c.Staple-1]
}

// allows reports whether a class may be delivered, if the month is one of those in which it is due.
func (o offer) allows(c api.Class) bool { return c.Grade <= o.Worst && c.Staple >= o.Short }

// classes yields the classes of a lot that may be delivered: the lesser grades first, then the lesser staples.
func (o offer) classes(l lot) iter.Seq[api.Class] {
	return func(yield func(api.Class) bool) {
		for grade := l.grades.Lo; grade <= l.grades.Hi; grade++ {
			for staple := l.staples.Lo; staple <= l.staples.Hi; staple++ {
				if c := class(grade, staple); o.allows(c) && !yield(c) {
					return
				}
			}
		}
	}
}

// count returns how many classes of a lot may be delivered.
func (o offer) count(l lot) int {
	n := 0
	for range o.classes(l) {
		n++
	}
	return n
}

// market is an offer on a day.
type market struct {
	offer
	day api.Day
}

// costs returns what it costs to deliver a class.
func (m market) costs(c api.Class) int {
	return m.day.Price + m.day.Grades[c.Grade-1] + m.day.Staples[c.Staple-1] - m.value(c)
}

// cheapest returns the class that is the cheapest to deliver, by what each one costs, and what that costs.
// Of several it is the first one, as they come in this order.
func (o offer) cheapest(costs func(api.Class) int) (api.Class, int) {
	c, _ := lists.First(o.classes(lot{anyGrade(), anyStaple()}), func(a, b api.Class) int { return cmp.Compare(costs(a), costs(b)) })
	return c, costs(c)
}
