package core_test

import (
	"math/rand"
	"slices"

	"middling/api"
	"middling/core"
)

func ints(l ...int) []int { return l }

func span(lo, hi int) api.Span { return api.Span{Lo: lo, Hi: hi} }

func draw(number, layer, lo, hi int) api.Draw {
	return api.Draw{Number: number, Layer: layer, Grade: span(lo, hi)}
}

func weigh(number, pounds, lo, hi int) api.Weigh {
	return api.Weigh{Number: number, Pounds: pounds, Damp: span(lo, hi)}
}

// example is the bale of the chapter's examples, with more draws.
func example(more ...api.Draw) api.Bale {
	return api.Bale{
		Id:     1,
		Layers: 4,
		Dry:    span(400, 500),
		Draws:  append([]api.Draw{draw(1, 0, 3, 3), draw(2, 3, 3, 4), draw(3, 1, 3, 6)}, more...),
		Weighs: []api.Weigh{weigh(1, 480, 60, 90), weigh(2, 470, 40, 70)},
	}
}

// odd has no truth of its layers.
func odd() api.Bale { return example(draw(4, 0, 5, 6)) }

// light has no truth of its weight.
func light() api.Bale {
	b := example()
	b.Weighs = append(b.Weighs, weigh(3, 399, 0, 200))
	return b
}

// blank has some layers, of which nothing is known.
func blank(layers int) api.Bale { return api.Bale{Id: 9, Layers: layers, Dry: span(1, 600)} }

// showing has layers that show some grades.
func showing(grades ...int) api.Bale {
	b := blank(len(grades))
	for i, n := range grades {
		b.Draws = append(b.Draws, draw(i+1, i, n, n))
	}
	return b
}

// heavy has one layer, and was weighed so.
func heavy(lo, hi int, l ...api.Weigh) api.Bale {
	b := blank(1)
	b.Dry, b.Weighs = span(lo, hi), l
	return b
}

func same(a, b api.Bale) bool {
	return a.Id == b.Id && a.Layers == b.Layers && a.Dry == b.Dry && slices.Equal(a.Draws, b.Draws) && slices.Equal(a.Weighs, b.Weighs)
}

func zero(b api.Bale) bool { return same(b, api.Bale{}) }

func copied(b api.Bale) api.Bale {
	b.Draws, b.Weighs = slices.Clone(b.Draws), slices.Clone(b.Weighs)
	return b
}

func drawn(b api.Bale) []int {
	var l []int
	for _, x := range b.Draws {
		l = append(l, x.Number)
	}
	return l
}

func weighed(b api.Bale) []int {
	var l []int
	for _, x := range b.Weighs {
		l = append(l, x.Number)
	}
	return l
}

// without returns the bale without some draws, and without some weighings.
func without(b api.Bale, draws, weighs []int) api.Bale {
	b.Draws = slices.DeleteFunc(slices.Clone(b.Draws), func(x api.Draw) bool { return slices.Contains(draws, x.Number) })
	b.Weighs = slices.DeleteFunc(slices.Clone(b.Weighs), func(x api.Weigh) bool { return slices.Contains(weighs, x.Number) })
	return b
}

// size is how large bales by chance may be, how far their grades may be from a first one, how wide draws and dry weights are, and how many of a hundred draws and weighings say anything at all.
type size struct{ layers, draws, weighs, far, wide, dry, odd int }

func small() size { return size{4, 6, 5, 3, 4, 40, 15} }

func large() size { return size{api.MaxLayers, api.MaxDraws, api.MaxWeighs, 5, 4, 200, 0} }

// false ones have draws and weighings of which many are wrong.
func untrue() size { return size{3, 8, 7, 2, 2, 30, 40} }

// hidden is a truth from which draws and weighings are made: grades by layers.
type hidden struct {
	grades []int
	dry    int
}

// around returns a span by chance with a number in it, that goes no further than some ends.
func around(c *rand.Rand, n, wide int, ends api.Span) api.Span {
	return span(max(ends.Lo, n-c.Intn(wide)), min(ends.Hi, n+c.Intn(wide)))
}

func grades() api.Span { return span(1, api.MaxGrade) }

// anyBale returns a valid bale by chance, whose draws and weighings come from a truth, but for odd ones, and this truth.
func anyBale(c *rand.Rand, s size) (api.Bale, hidden) {
	h := hidden{dry: 1 + c.Intn(api.MaxPounds)}
	b := api.Bale{Id: 1 + c.Intn(api.MaxId), Layers: 1 + c.Intn(s.layers)}
	b.Dry = around(c, h.dry, 1+c.Intn(s.dry), span(1, api.MaxPounds))
	first := 1 + c.Intn(api.MaxGrade)
	for range b.Layers {
		h.grades = append(h.grades, min(api.MaxGrade, first+c.Intn(s.far)*c.Intn(2)))
	}
	number := 0
	for range c.Intn(s.draws + 1) {
		number += 1 + c.Intn(3)
		x := anyDraw(c, h, number, s.wide)
		if c.Intn(100) < s.odd {
			x.Grade = around(c, 1+c.Intn(api.MaxGrade), s.wide, grades())
		}
		b.Draws = append(b.Draws, x)
	}
	number = 0
	for range c.Intn(s.weighs + 1) {
		number += 1 + c.Intn(3)
		x := anyWeigh(c, h, number)
		if c.Intn(100) < s.odd {
			x.Pounds = max(1, x.Pounds-20+c.Intn(40))
		}
		b.Weighs = append(b.Weighs, x)
	}
	return b, h
}

// anyDraw returns a draw by chance that is so in a truth.
func anyDraw(c *rand.Rand, h hidden, number, wide int) api.Draw {
	at := c.Intn(len(h.grades))
	return api.Draw{Number: number, Layer: at, Grade: around(c, h.grades[at], wide, grades())}
}

// anyWeigh returns a weighing by chance that is so in a truth.
func anyWeigh(c *rand.Rand, h hidden, number int) api.Weigh {
	damp := c.Intn(api.MaxDamp + 1)
	return api.Weigh{Number: number, Pounds: max(1, h.dry*(1000+damp)/1000), Damp: around(c, damp, 1+c.Intn(60), span(0, api.MaxDamp))}
}

func can(b api.Bale) bool {
	is, e := core.Can(b)
	return is && e == api.OK
}

func kinds() []int { return ints(api.KindPlain, api.KindTwo, api.KindFalse, api.KindMixed) }

func inside(a, b api.Span) bool { return a.Lo >= b.Lo && a.Hi <= b.Hi && a.Lo <= a.Hi }

func has(s api.Span, n int) bool { return inside(span(n, n), s) }
