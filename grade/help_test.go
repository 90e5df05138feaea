package grade_test

import (
	"math/rand"
	"slices"

	"middling/api"
	"middling/box"
	"middling/grade"
)

func ints(l ...int) []int { return l }

func span(lo, hi int) api.Span { return api.Span{Lo: lo, Hi: hi} }

func look(number, classer, bale, month, box, said int) api.Look {
	return api.Look{Number: number, Classer: classer, Bale: bale, Month: month, Box: box, Said: said}
}

// room is that of layer 1's examples: the box 1 has yellowed by 0, 1 to 4, 4 to 8 and 4 to 12, the box 2 by 0, 1 to 4 and 2 to 8 from the month 1 on.
func room() api.Room {
	return api.Room{
		Months:  4,
		Step:    5,
		Ages:    []api.Span{span(0, 0), span(1, 4), span(2, 8), span(3, 12)},
		Boxes:   []api.Box{{Id: 1}, {Id: 2, Made: 1}},
		Matches: []api.Match{{Number: 1, Month: 2, A: 1, B: 2, By: span(3, 5)}},
	}
}

// example is the desk of the chapter's examples, with more looks.
func example(more ...api.Look) api.Desk {
	l := []api.Look{look(1, 1, 101, 0, 1, 4), look(2, 2, 101, 1, 2, 5), look(3, 1, 102, 2, 1, 3), look(4, 2, 102, 0, 1, 4), look(5, 3, 101, 0, 1, 7)}
	return api.Desk{Room: room(), Lean: 15, Bales: ints(101, 102, 103), Classers: ints(1, 2, 3), Looks: append(l, more...)}
}

// odd has no truth, as two of its looks are unjust together.
func odd() api.Desk { return example(look(6, 1, 103, 0, 1, 9), look(7, 2, 103, 0, 1, 1)) }

// dry has no truth, as its Room has none.
func dry() api.Desk {
	d := example()
	d.Room.Matches[0].By = span(20, 20)
	return d
}

// plain has two bales and four classers, who lean by so much at most.
func plain(lean int, l ...api.Look) api.Desk {
	return api.Desk{Room: room(), Lean: lean, Bales: ints(1, 2), Classers: ints(1, 2, 3, 4), Looks: l}
}

// heard is what classers said of the bale 1, one after the other, beside a box that has not yellowed.
func heard(lean int, said ...int) api.Desk {
	d := plain(lean)
	for i, n := range said {
		d.Looks = append(d.Looks, look(i+1, i+1, 1, 0, 1, n))
	}
	return d
}

// old has a box that has yellowed by 60 in the month 1, and one look beside it.
func old(lean, said int) api.Desk {
	d := plain(lean, look(1, 1, 1, 1, 1, said))
	d.Room = api.Room{Months: 2, Step: 60, Ages: []api.Span{span(0, 0), span(60, 60)}, Boxes: []api.Box{{Id: 1}}}
	return d
}

func sameRoom(a, b api.Room) bool {
	return a.Months == b.Months && a.Step == b.Step && slices.Equal(a.Ages, b.Ages) && slices.Equal(a.Boxes, b.Boxes) && slices.Equal(a.Matches, b.Matches)
}

func same(a, b api.Desk) bool {
	return sameRoom(a.Room, b.Room) && a.Lean == b.Lean && slices.Equal(a.Bales, b.Bales) && slices.Equal(a.Classers, b.Classers) && slices.Equal(a.Looks, b.Looks)
}

func zero(d api.Desk) bool { return same(d, api.Desk{}) }

func copied(d api.Desk) api.Desk {
	d.Room.Ages, d.Room.Boxes, d.Room.Matches = slices.Clone(d.Room.Ages), slices.Clone(d.Room.Boxes), slices.Clone(d.Room.Matches)
	d.Bales, d.Classers, d.Looks = slices.Clone(d.Bales), slices.Clone(d.Classers), slices.Clone(d.Looks)
	return d
}

func numbers(d api.Desk) []int {
	var l []int
	for _, x := range d.Looks {
		l = append(l, x.Number)
	}
	return l
}

// gradeOf is the grade of a number by the chapter's words.
func gradeOf(n int) int {
	switch {
	case n < 10:
		return 1
	case n >= 80:
		return 9
	}
	return n/10 + 1
}

// yellow is by how much the box of a look has yellowed.
func yellow(r api.Room, x api.Look) api.Span {
	s, _ := box.Yellow(r, x.Box, x.Month)
	return s
}

// just reports whether a look is just if points and lean are so much together.
func just(x api.Look, yellow api.Span, sum int) bool {
	for n := yellow.Lo; n <= yellow.Hi; n++ {
		if gradeOf(sum-n) == x.Said {
			return true
		}
	}
	return false
}

// size is how large desks by chance may be, by how much boxes may have yellowed more or less than is known, how near points are to the end of a grade, and how many of a hundred looks say anything at all.
type size struct {
	lean                                    api.Span
	bales, classers, looks, wide, near, odd int
}

func small() size { return size{span(0, 2), 3, 3, 6, 3, 1, 15} }

// leaning desks show who leans by what is said of one bale, close ones by several.
func leaning() size { return size{span(6, 9), 2, 2, 5, 1, 5, 0} }

func closely() size { return size{span(1, 1), 2, 3, 8, 1, 1, 0} }

func large() size {
	return size{span(0, api.MaxLean), api.MaxWork, api.MaxClassers, api.MaxLooks, 4, 3, 0}
}

// upTo is n three times of four, or else less.
func upTo(c *rand.Rand, n int) int { return n - c.Intn(4)/3*c.Intn(n+1) }

func ids(c *rand.Rand, n int) []int {
	var l []int
	id := 0
	for range n {
		id += 1 + c.Intn(3)
		l = append(l, id)
	}
	return l
}

// anyRoom returns a room by chance with one or two boxes, of some of which it is known just by how much they have yellowed; a few have no truth.
func anyRoom(c *rand.Rand, wide int) api.Room {
	r := api.Room{Months: 1 + c.Intn(2), Step: 60, Boxes: []api.Box{{Id: 1}}}
	lo := 0
	for range r.Months {
		lo += c.Intn(5)
		r.Ages = append(r.Ages, span(lo, lo+c.Intn(wide)*c.Intn(3)))
	}
	if c.Intn(3) > 0 {
		r.Boxes = append(r.Boxes, api.Box{Id: 3, Made: c.Intn(r.Months)})
	}
	if c.Intn(12) == 0 {
		r.Step = 0
	}
	return r
}

// hidden is a truth from which looks are made: points and leans by their Ids.
type hidden struct{ points, leans map[int]int }

// anyDesk returns a valid desk by chance, whose looks come from a truth, but for odd ones, and this truth.
func anyDesk(c *rand.Rand, s size) (api.Desk, hidden) {
	d := api.Desk{Room: anyRoom(c, s.wide), Lean: s.lean.Lo + c.Intn(s.lean.Hi-s.lean.Lo+1)}
	d.Bales, d.Classers = ids(c, upTo(c, s.bales)), ids(c, upTo(c, s.classers))
	h := hidden{map[int]int{}, map[int]int{}}
	for _, b := range d.Bales {
		// Near the end of a grade leans are heard.
		h.points[b] = min(89, max(0, 10*c.Intn(10)+c.Intn(2*s.near)-s.near))
	}
	for _, k := range d.Classers {
		h.leans[k] = []int{-d.Lean, d.Lean, c.Intn(2*d.Lean+1) - d.Lean}[c.Intn(8)/3]
	}
	number := 0
	for range upTo(c, s.looks) {
		number += 1 + c.Intn(3)
		if x, ok := anyLook(c, d, h, number); ok {
			if c.Intn(100) < s.odd {
				x.Said = 1 + c.Intn(api.MaxGrade)
			}
			d.Looks = append(d.Looks, x)
		}
	}
	return d, h
}

// anyLook returns a look by chance that is just in a truth, if there can be one.
func anyLook(c *rand.Rand, d api.Desk, h hidden, number int) (api.Look, bool) {
	if len(d.Bales) == 0 || len(d.Classers) == 0 {
		return api.Look{}, false
	}
	b := d.Room.Boxes[c.Intn(len(d.Room.Boxes))]
	x := look(number, d.Classers[c.Intn(len(d.Classers))], d.Bales[c.Intn(len(d.Bales))], b.Made+c.Intn(d.Room.Months-b.Made), b.Id, 0)
	s := yellow(d.Room, x)
	x.Said = gradeOf(h.points[x.Bale] + h.leans[x.Classer] - s.Lo - c.Intn(s.Hi-s.Lo+1))
	return x, true
}

// trueDesk returns a desk by chance that has a truth, and this one.
func trueDesk(c *rand.Rand, s size) (api.Desk, hidden) {
	for {
		d, h := anyDesk(c, s)
		if can, _ := grade.Can(d); can {
			return d, h
		}
	}
}
