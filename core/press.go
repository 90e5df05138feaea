package core

import (
	"iter"
	"slices"

	"middling/api"
	"middling/lists"
)

// press is a valid bale at work, with the grades that its draws leave each layer: Lo above Hi if they leave none.
type press struct {
	api.Bale
	grades [api.MaxLayers]api.Span
}

// pressed returns the press of a bale.
func pressed(b api.Bale) press {
	p := press{Bale: b}
	for at := range p.Layers {
		p.grades[at] = api.Span{Lo: 1, Hi: api.MaxGrade}
	}
	for _, x := range p.Draws {
		s := &p.grades[x.Layer]
		s.Lo, s.Hi = max(s.Lo, x.Grade.Lo), min(s.Hi, x.Grade.Hi)
	}
	return p
}

// can reports whether there is a truth.
func (p press) can() bool { return p.hasGrades() && p.hasWeight() }

// hasGrades reports whether there is a truth of the layers.
func (p press) hasGrades() bool {
	return !slices.ContainsFunc(p.grades[:p.Layers], func(s api.Span) bool { return s.Lo > s.Hi })
}

// hasWeight reports whether there is a truth of the weight.
func (p press) hasWeight() bool { return len(p.weights()) > 0 }

// truths yields the grades of all layers in each truth.
func (p press) truths() iter.Seq[[]int] {
	return func(yield func([]int) bool) {
		p.grow(nil, yield)
	}
}

// grow yields all truths of the layers that begin so: false if no more are wanted.
func (p press) grow(grades []int, yield func([]int) bool) bool {
	at := len(grades)
	if at == p.Layers {
		return yield(grades)
	}
	for grade := p.grades[at].Lo; grade <= p.grades[at].Hi; grade++ {
		// Without capacity left each longer one is new, and no two truths share memory.
		if !p.grow(append(grades[:at:at], grade), yield) {
			return false
		}
	}
	return true
}

// kinds returns the kinds that are left, with how many truths of the layers are of each.
func (p press) kinds() map[int]int {
	left := map[int]int{api.KindPlain: 0, api.KindTwo: 0, api.KindFalse: 0, api.KindMixed: 0}
	for grades := range p.truths() {
		left[kindOf(grades)]++
	}
	for kind, truths := range left {
		if truths == 0 {
			delete(left, kind)
		}
	}
	return left
}

// isOf tells what is known of whether the bale is of a kind.
func (p press) isOf(kind int) uint8 {
	left := p.kinds()
	is := left[kind] > 0
	delete(left, kind)
	return lists.Known(is, len(left) > 0)
}

// kindOf returns the kind of a bale by the grades of its layers.
func kindOf(grades []int) int {
	c := cuts(grades)
	switch {
	case areAlike(grades...):
		return api.KindPlain
	case c.Lo <= c.Hi:
		return api.KindTwo
	case isFalse(grades):
		return api.KindFalse
	}
	return api.KindMixed
}

func areAlike(grades ...int) bool { return slices.Max(grades)-slices.Min(grades) <= 1 }

// cuts returns the least and the greatest cut with layers that are alike on either side: Lo above Hi if there is none.
// Fewer layers of some that are alike are alike too, so that each number between is a cut.
func cuts(grades []int) api.Span {
	s := api.Span{Lo: 1, Hi: len(grades) - 1}
	for s.Lo <= s.Hi && !areAlike(grades[s.Lo:]...) {
		s.Lo++
	}
	for s.Lo <= s.Hi && !areAlike(grades[:s.Hi]...) {
		s.Hi--
	}
	return s
}

// isFalse reports whether the bale is false in the middle: worse there than the first and the last layer, nowhere better.
func isFalse(grades []int) bool {
	first, last := grades[0], grades[len(grades)-1]
	worse := max(first, last)
	some := false
	for at := 1; at < len(grades)-1; at++ {
		if grades[at] < worse {
			return false
		}
		some = some || grades[at] >= worse+2
	}
	return some && areAlike(first, last)
}

// weights returns the dry weights of all truths, in increasing order.
func (p press) weights() []int {
	var l []int
weights:
	for dry := p.Dry.Lo; dry <= p.Dry.Hi; dry++ {
		for _, x := range p.Weighs {
			if s := damp(x, dry); s.Lo > s.Hi {
				continue weights
			}
		}
		l = append(l, dry)
	}
	return l
}

// damp returns how damp the bale was at a weighing, if it weighs so much dry: Lo above Hi if it cannot have weighed so.
func damp(x api.Weigh, dry int) api.Span {
	return api.Span{Lo: max(x.Damp.Lo, leastDamp(x.Pounds, dry)), Hi: min(x.Damp.Hi, leastDamp(x.Pounds+1, dry)-1)}
}

// leastDamp returns how damp the bale is at least if it weighs so many pounds, or more, in thousandths of what it weighs dry.
func leastDamp(pounds, dry int) int { return (1000*pounds+dry-1)/dry - 1000 }

// dry returns the dry weight in all truths; there is one.
func (p press) dry() api.Span {
	l := p.weights()
	return api.Span{Lo: l[0], Hi: l[len(l)-1]}
}

// wet returns how damp the bale was at a weighing in all truths: the less, the more it weighs dry.
func (p press) wet(x api.Weigh) api.Span {
	s := p.dry()
	return api.Span{Lo: damp(x, s.Hi).Lo, Hi: damp(x, s.Lo).Hi}
}

// weighing returns the one with a Number.
func (p press) weighing(number int) api.Weigh {
	return lists.Numbered(p.Weighs, number, numberOfWeigh)
}

// wasDamper tells what is known of whether the bale was damper than so much at a weighing.
func (p press) wasDamper(x api.Weigh, damp int) uint8 {
	s := p.wet(x)
	return lists.Known(s.Hi > damp, s.Lo <= damp)
}
