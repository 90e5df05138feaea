package terms

import (
	"cmp"
	"maps"
	"slices"

	"middling/api"
	"middling/lists"
)

// Pays returns what is got, and what is paid, if a grade is said (P4.3).
func Pays(t api.Terms, said, grade, staple int, ask bool) (gets, pays int, e api.Errno) {
	by, found := class(said, staple), class(grade, staple)
	o, e := open(t, about{lots: []lot{only(by), only(found)}, some: []lot{only(by)}})
	if e != api.OK {
		return 0, 0, e
	}
	x := o.settle(by, found, ask)
	return x.gets, x.pays, api.OK
}

// Ask reports whether the receiver should ask for another look (P4.4).
func Ask(t api.Terms, said int, grades api.Span, staple int) (ask bool, loss int, e api.Errno) {
	l := only(class(said, staple))
	o, e := open(t, about{lots: []lot{l, {grades, just(staple)}}, some: []lot{l}})
	if e != api.OK {
		return false, 0, e
	}
	ask, loss = game{o, grades, staple}.choice(said)
	return ask, loss, api.OK
}

// Say returns the grade that who delivers should say (P4.5).
func Say(t api.Terms, grades api.Span, staple int) (said, gets int, e api.Errno) {
	o, e := open(t, about{lots: []lot{{grades, just(staple)}}, some: []lot{{anyGrade(), just(staple)}}})
	if e != api.OK {
		return 0, 0, e
	}
	said, gets = game{o, grades, staple}.best()
	return said, gets, api.OK
}

// outcome is what who delivers gets at last, what the receiver pays, and the value of the bale that it has, if any.
type outcome struct{ gets, pays, has int }

func (x outcome) got() int { return x.gets }

func (x outcome) lost() int { return x.pays - x.has }

// settle returns the outcome if a class is said, which may be delivered, another one of its staple is found, and the receiver asks for another look, or not.
func (o offer) settle(said, found api.Class, ask bool) outcome {
	invoice, value := o.value(said), o.value(found)
	switch {
	case !ask:
		return outcome{invoice, invoice, value}
	case found.Grade <= said.Grade:
		return outcome{invoice, invoice + o.Fee, value}
	case o.allows(found):
		return outcome{value - o.Fee, value, value}
	}
	return outcome{-o.Fee, 0, 0}
}

// game is an offer of a bale, of which both sides know the staple, and that its grade is one of some.
type game struct {
	offer
	grades api.Span
	staple int
}

// outcomes returns those of all grades that the bale can have.
func (g game) outcomes(said int, ask bool) []outcome {
	var l []outcome
	for grade := g.grades.Lo; grade <= g.grades.Hi; grade++ {
		l = append(l, g.settle(class(said, g.staple), class(grade, g.staple), ask))
	}
	return l
}

// loses returns what tells for each grade that can be said what the receiver loses at most by a choice.
func (g game) loses(ask bool) func(said int) int {
	return func(said int) int { return slices.Max(lists.Numbers(g.outcomes(said, ask), outcome.lost)) }
}

// losses are what the receiver loses at most without another look, and with one.
type losses [2]int

// choice tells whether the receiver should ask for another look if a grade is said, and what it loses then at most.
func (g game) choice(said int) (ask bool, loss int) {
	both := losses{g.loses(false)(said), g.loses(true)(said)}
	lessFirst := losses{min(both[0], both[1]), max(both[0], both[1])}
	// It asks only if it loses less by this: just then the two are not in order as they are.
	return both != lessFirst, lessFirst[0]
}

// gains returns what who delivers gets at least if it says a grade.
func (g game) gains(said int) int {
	ask, _ := g.choice(said)
	return slices.Min(lists.Numbers(g.outcomes(said, ask), outcome.got))
}

// best returns the least grade by which who delivers gets most, whatever the true one is, and what it gets then at least.
func (g game) best() (said, gets int) {
	still := map[int]int{}
	for c := range g.classes(lot{anyGrade(), just(g.staple)}) {
		still[c.Grade] = g.gains(c.Grade)
	}
	most := slices.Max(slices.Collect(maps.Values(still)))
	for grade, least := range still {
		if least < most {
			delete(still, grade)
		}
	}
	said, _ = lists.First(maps.Keys(still), cmp.Compare[int])
	return said, most
}
