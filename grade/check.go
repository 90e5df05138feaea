package grade

import (
	"slices"

	"middling/api"
	"middling/box"
	"middling/lists"
)

// Check returns the error of a desk (P2.1).
func Check(d api.Desk) api.Errno {
	if box.Check(d.Room) != api.OK || !lists.Within(api.Span{Lo: 0, Hi: api.MaxLean}, d.Lean) || !hasValidIds(d) || !hasValidLooks(d) {
		return api.ErrDesk
	}
	return api.OK
}

func hasValidIds(d api.Desk) bool {
	return len(d.Bales) <= api.MaxWork && lists.Rising(d.Bales) && len(d.Classers) <= api.MaxClassers && lists.Rising(d.Classers)
}

func hasValidLooks(d api.Desk) bool {
	if len(d.Looks) > api.MaxLooks || !lists.Rising(lists.Numbers(d.Looks, number)) || !lists.Within(api.Span{Lo: 1, Hi: api.MaxGrade}, lists.Numbers(d.Looks, said)...) {
		return false
	}
	for _, x := range d.Looks {
		if !slices.Contains(d.Bales, x.Bale) || !slices.Contains(d.Classers, x.Classer) || !isBeside(d.Room, x) {
			return false
		}
	}
	return true
}

// isBeside reports whether the box of a look is there in its month.
func isBeside(r api.Room, x api.Look) bool {
	return slices.ContainsFunc(r.Boxes, func(b api.Box) bool {
		return b.Id == x.Box && lists.Within(api.Span{Lo: b.Made, Hi: r.Months - 1}, x.Month)
	})
}

func number(x api.Look) int { return x.Number }

func said(x api.Look) int { return x.Said }

// place is a box in a month.
type place struct{ month, box int }

// need is how much of a desk a call needs.
type need int

const (
	validDesk need = iota
	trueRoom
	trueDesk
)

// about is what a call is about, and what it needs.
type about struct {
	need                   need
	bales, classers, looks []int
	beside                 []place
}

// question is what a desk is asked by all calls that need as much, or more: the error, if something is amiss.
type question struct {
	need  need
	amiss func(d api.Desk, x about) api.Errno
}

// questions returns what a desk is asked, in order: each one relies on those before it.
func questions() [6]question {
	return [6]question{
		{validDesk, notValid},
		{validDesk, notOfDesk},
		{validDesk, noLook},
		{validDesk, notBeside},
		{trueRoom, noTruthOfRoom},
		{trueDesk, noTruth},
	}
}

// asked returns the first error of a call (P2.1).
func asked(d api.Desk, x about) api.Errno {
	for _, q := range questions() {
		if q.need > x.need {
			break
		}
		if e := q.amiss(d, x); e != api.OK {
			return e
		}
	}
	return api.OK
}

func notValid(d api.Desk, _ about) api.Errno { return Check(d) }

func notOfDesk(d api.Desk, x about) api.Errno {
	if !lists.Among(d.Bales, x.bales) || !lists.Among(d.Classers, x.classers) {
		return api.ErrNone
	}
	return api.OK
}

func noLook(d api.Desk, x about) api.Errno {
	if !lists.Among(lists.Numbers(d.Looks, number), x.looks) {
		return api.ErrLook
	}
	return api.OK
}

func notBeside(d api.Desk, x about) api.Errno {
	for _, p := range x.beside {
		if _, e := box.Yellow(d.Room, p.box, p.month); e != api.OK {
			return e
		}
	}
	return api.OK
}

func noTruthOfRoom(d api.Desk, _ about) api.Errno {
	if can, _ := box.Can(d.Room); !can {
		return api.ErrBad
	}
	return api.OK
}

func noTruth(d api.Desk, _ about) api.Errno {
	if !lay(d).seen().can {
		return api.ErrBad
	}
	return api.OK
}

// open returns the view of a desk that has a truth, or the first error of a call.
func open(d api.Desk, x about) (view, api.Errno) {
	x.need = trueDesk
	if e := asked(d, x); e != api.OK {
		return view{}, e
	}
	return lay(d).seen(), api.OK
}

// told returns what is told of a desk that has a truth, or the first error of a call.
func told[T any](d api.Desk, x about, tell func(view) T) (T, api.Errno) {
	v, e := open(d, x)
	return lists.Told(v, e, tell)
}
