package core

import (
	"middling/api"
	"middling/lists"
)

// shown is what draws of layers show: 0 where none is.
type shown [api.MaxLayers]int

// Ask returns the layer whose draw decides most (P3.4).
func Ask(b api.Bale) (layer, kinds int, e api.Errno) {
	p, e := open(b, about{})
	if e != api.OK {
		return 0, 0, e
	}
	for at := range p.Layers {
		if n := p.leaves(at); at == 0 || n < kinds {
			layer, kinds = at, n
		}
	}
	return layer, kinds, api.OK
}

// leaves returns how many kinds a draw of a layer leaves at most, whatever it shows.
func (p press) leaves(at int) int {
	most := 0
	s := p.grades[at]
	for grade := s.Lo; grade <= s.Hi; grade++ {
		p.grades[at] = api.Span{Lo: grade, Hi: grade}
		most = max(most, len(p.kinds()))
	}
	return most
}

// Decide returns the fewest layers whose draws decide (P3.4).
func Decide(b api.Bale) ([]int, api.Errno) {
	return told(b, about{}, func(p press) []int {
		var layers []int
		for at := range p.Layers {
			layers = append(layers, at)
		}
		l, _ := lists.Fewest(layers, p.Layers, p.decide)
		return l
	})
}

// decide reports whether draws of layers decide of which kind the bale is, whatever they show.
func (p press) decide(layers []int) bool {
	kinds := map[shown]int{}
	for grades := range p.truths() {
		var x shown
		for _, at := range layers {
			x[at] = grades[at]
		}
		kind := kindOf(grades)
		if before, ok := kinds[x]; ok && before != kind {
			return false
		}
		kinds[x] = kind
	}
	return true
}

// Wrong returns the draws and weighings that must be false (P3.7).
func Wrong(b api.Bale) (draws, weighs []int, e api.Errno) {
	if e := Check(b); e != api.OK {
		return nil, nil, e
	}
	draws, fewDraws := falseDraws(b)
	weighs, fewWeighs := falseWeighs(b)
	if !fewDraws || !fewWeighs {
		return nil, nil, api.ErrMany
	}
	return draws, weighs, api.OK
}

// falseDraws returns the Numbers of the fewest draws without which there is a truth of the layers: false if these are too many.
func falseDraws(b api.Bale) ([]int, bool) {
	l, ok := lists.Fewest(b.Draws, api.MaxFalse, func(out []api.Draw) bool {
		left := b
		left.Draws = lists.Except(b.Draws, out)
		return pressed(left).hasGrades()
	})
	return lists.Numbers(l, numberOfDraw), ok
}

// falseWeighs returns the Numbers of the fewest weighings without which there is a truth of the weight: false if these are too many.
func falseWeighs(b api.Bale) ([]int, bool) {
	l, ok := lists.Fewest(b.Weighs, api.MaxFalse, func(out []api.Weigh) bool {
		left := b
		left.Weighs = lists.Except(b.Weighs, out)
		return pressed(left).hasWeight()
	})
	return lists.Numbers(l, numberOfWeigh), ok
}
