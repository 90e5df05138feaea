package mill_test

import (
	"math/rand"
	"slices"

	"middling/api"
	"middling/core"
	"middling/mill"
)

func ints(l ...int) []int { return l }

func span(lo, hi int) api.Span { return api.Span{Lo: lo, Hi: hi} }

// showing is a bale whose layers show some grades.
func showing(id int, grades ...api.Span) api.Bale {
	b := api.Bale{Id: id, Layers: len(grades), Dry: span(400, 500)}
	for at, s := range grades {
		b.Draws = append(b.Draws, api.Draw{Number: at + 1, Layer: at, Grade: s})
	}
	return b
}

// plain is a bale that surely is plain.
func plain(id int) api.Bale { return showing(id, span(3, 3), span(3, 3)) }

// two is a bale of two pickings.
func two(id int) api.Bale { return showing(id, span(3, 3), span(7, 7)) }

// blank is a bale of some layers, of which nothing is known.
func blank(id, layers int) api.Bale { return api.Bale{Id: id, Layers: layers, Dry: span(1, 600)} }

// torn is a bale that would be plain, but whose draws cannot all be true.
func torn(id int) api.Bale {
	b := plain(id)
	b.Draws = append(b.Draws, api.Draw{Number: 9, Layer: 1, Grade: span(5, 9)})
	return b
}

// light is a bale that would be plain, but has no truth of its weight.
func light(id int) api.Bale {
	b := plain(id)
	b.Weighs = []api.Weigh{{Number: 1, Pounds: 399, Damp: span(0, 200)}}
	return b
}

// weighed is a plain bale with a weighing.
func weighed(id int) api.Bale {
	b := plain(id)
	b.Weighs = []api.Weigh{{Number: 7, Pounds: 480, Damp: span(60, 90)}}
	return b
}

// cotton has a bale that is fit.
func cotton(id, length, strength int) api.Cotton {
	return api.Cotton{Bale: plain(id), Length: length, Strength: strength}
}

// example is the mill of the chapter's examples, that wants some lots of two.
func example(lots int) api.Mill {
	return api.Mill{Lots: lots, Size: 2, Cottons: []api.Cotton{cotton(1, 28, 80), cotton(2, 30, 84), cotton(3, 31, 90), cotton(4, 35, 70), cotton(5, 36, 75), {Bale: two(6), Length: 29, Strength: 60}}}
}

// changed is the mill of the examples, but for something.
func changed(change func(m *api.Mill)) api.Mill {
	m := example(2)
	change(&m)
	return m
}

// broken is not valid: one Id is there twice.
func broken() api.Mill { return changed(func(m *api.Mill) { m.Cottons[1].Bale.Id = 1 }) }

// line has bales 1, 2, 3 and so on of some lengths, all as strong.
func line(lots, size int, lengths ...int) api.Mill {
	m := api.Mill{Lots: lots, Size: size}
	for i, n := range lengths {
		m.Cottons = append(m.Cottons, cotton(i+1, n, 50))
	}
	return m
}

// strong is a line whose bales have some strengths.
func strong(m api.Mill, strengths ...int) api.Mill {
	for i, n := range strengths {
		m.Cottons[i].Strength = n
	}
	return m
}

// full has as many bales as there can be, all fit.
func full() api.Mill {
	return strong(line(3, 2, 20, 24, 21, 40, 22, 39, 60), 100, 90, 100, 80, 95, 81, 200)
}

func sameCotton(a, b api.Cotton) bool {
	x, y := a.Bale, b.Bale
	return a.Length == b.Length && a.Strength == b.Strength && x.Id == y.Id && x.Layers == y.Layers && x.Dry == y.Dry && slices.Equal(x.Draws, y.Draws) && slices.Equal(x.Weighs, y.Weighs)
}

func same(a, b api.Mill) bool {
	return a.Lots == b.Lots && a.Size == b.Size && slices.EqualFunc(a.Cottons, b.Cottons, sameCotton)
}

func copiedCotton(x api.Cotton) api.Cotton {
	x.Bale.Draws, x.Bale.Weighs = slices.Clone(x.Bale.Draws), slices.Clone(x.Bale.Weighs)
	return x
}

func copied(m api.Mill) api.Mill {
	var l []api.Cotton
	for _, x := range m.Cottons {
		l = append(l, copiedCotton(x))
	}
	m.Cottons = l
	return m
}

func ids(m api.Mill) []int {
	var l []int
	for _, x := range m.Cottons {
		l = append(l, x.Bale.Id)
	}
	return l
}

// isFit tells by the chapter's words whether a bale is fit.
func isFit(b api.Bale) bool {
	k, e := core.Kind(b, api.KindPlain)
	return k == api.KnownYes && e == api.OK
}

// one returns one of some numbers by chance.
func one(c *rand.Rand, l ...int) int { return l[c.Intn(len(l))] }

// anyBale returns a valid bale by chance; of six five are fit.
func anyBale(c *rand.Rand, id int) api.Bale {
	if c.Intn(6) > 0 {
		l := []api.Bale{plain(id), weighed(id), blank(id, 1), showing(id, span(3, 4), span(3, 4), span(4, 4)), showing(id, span(9, 9), span(8, 9))}
		return l[c.Intn(len(l))]
	}
	l := []api.Bale{two(id), blank(id, 2), torn(id), light(id), showing(id, span(3, 3), span(7, 9), span(3, 3)), showing(id, span(3, 3), span(4, 5))}
	return l[c.Intn(len(l))]
}

// anyCotton returns a valid one by chance, which is as long or as strong as others often.
func anyCotton(c *rand.Rand, id int) api.Cotton {
	return api.Cotton{Bale: anyBale(c, id), Length: one(c, 1, 20, 26, 28, 28, 29, 30, 30, 31, 33, 60), Strength: one(c, 1, 70, 75, 80, 80, 80, 84, 90, 200)}
}

// anyMill returns a valid mill by chance, of at most so many bales.
func anyMill(c *rand.Rand, cottons int) api.Mill {
	l := [][2]int{{1, 2}, {1, 3}, {1, 4}, {2, 2}, {2, 2}, {2, 3}, {3, 2}, {3, 2}, {2, 4}, {3, 3}}
	x := l[c.Intn(len(l))]
	m := api.Mill{Lots: x[0], Size: x[1]}
	id := 0
	for range cottons - c.Intn(cottons+1)*c.Intn(2) {
		id += 1 + c.Intn(3)
		x := anyCotton(c, id)
		if len(m.Cottons) > 0 && c.Intn(3) == 0 {
			y := m.Cottons[c.Intn(len(m.Cottons))]
			x.Length, x.Strength = y.Length, y.Strength
		}
		m.Cottons = append(m.Cottons, x)
	}
	return m
}

// eachMill runs a test for the mill of the examples, and for some by chance, of at most so many bales.
func eachMill(t interface{ Fatal(...any) }, n, cottons int, test func(m api.Mill, c *rand.Rand) bool) {
	c := rand.New(rand.NewSource(9))
	for i := range n {
		m := example(2)
		if i > 0 {
			m = anyMill(c, cottons)
		}
		if e := mill.Check(m); e != api.OK {
			t.Fatal(m, e)
		}
		if !test(m, c) {
			t.Fatal(m)
		}
	}
}
