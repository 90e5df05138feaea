package fire_test

import (
	"math/rand"
	"slices"

	"middling/api"
	"middling/fire"
	"middling/stack"
)

func ints(l ...int) []int { return l }

func span(lo, hi int) api.Span { return api.Span{Lo: lo, Hi: hi} }

func pile(id, row int, bales ...int) api.Stack { return api.Stack{Id: id, Row: row, Bales: bales} }

func owned(bale, owner int) api.Owned { return api.Owned{Bale: bale, Owner: owner} }

func sheet(id, bale, holder int) api.Paper { return api.Paper{Id: id, Bale: bale, Holder: holder} }

func pass(number, of, from, to, lo, hi int) api.Pass {
	return api.Pass{Number: number, Paper: of, From: from, To: to, When: span(lo, hi)}
}

func gap(a, b, lo, hi int) api.Gap { return api.Gap{A: a, B: b, Minutes: span(lo, hi)} }

func glance(number, of, minute int, burns bool) api.Glance {
	return api.Glance{Number: number, Stack: of, Minute: minute, Burns: burns}
}

// example is the blaze of the chapter's examples, with glances.
func example(l ...api.Glance) api.Blaze {
	return api.Blaze{
		House: api.Warehouse{
			Stacks: []api.Stack{pile(1, 1, 11, 12), pile(2, 1, 21), pile(3, 2, 31)},
			Owners: []api.Owned{owned(11, 1), owned(12, 1), owned(21, 2), owned(31, 1)},
		},
		Books: api.Papers{
			Days:   6,
			Papers: []api.Paper{sheet(1, 11, 5), sheet(2, 21, 7)},
			Passes: []api.Pass{pass(1, 1, 5, 6, 2, 3)},
		},
		Day:     2,
		Begins:  ints(1, 3),
		Start:   span(10, 12),
		Gaps:    []api.Gap{gap(1, 2, 3, 4), gap(2, 3, 5, 5)},
		Glances: l,
	}
}

// seen is the blaze of the examples with both glances.
func seen() api.Blaze { return example(glance(1, 2, 14, true), glance(2, 3, 15, false)) }

// changed is the blaze of the examples, with both glances, but for something.
func changed(change func(b *api.Blaze)) api.Blaze {
	b := seen()
	change(&b)
	return b
}

// odd has no truth, with the third glance of the examples.
func odd() api.Blaze {
	return example(glance(1, 2, 14, true), glance(2, 3, 15, false), glance(3, 1, 20, false))
}

// many has no truth as long as one of four glances is there.
func many() api.Blaze {
	return example(glance(1, 1, 9, true), glance(2, 1, 8, true), glance(4, 2, 600, false), glance(5, 3, 7, true))
}

// torn has no truth of its papers: the pass is from a house that does not hold the paper.
func torn() api.Blaze { return changed(func(b *api.Blaze) { b.Books.Passes[0].From = 9 }) }

// broken is not valid: it began nowhere.
func broken() api.Blaze { return changed(func(b *api.Blaze) { b.Begins = nil }) }

// apart has no gap to the stack 3; fire goes from 1 to 2 in no time.
func apart(l ...api.Glance) api.Blaze {
	b := example(l...)
	b.Gaps = []api.Gap{gap(1, 2, 0, 0)}
	return b
}

// ring has gaps between all stacks: from 1 fire comes to 3 by 2, or straight.
func ring(l ...api.Glance) api.Blaze {
	b := example(l...)
	b.Begins, b.Start = ints(1), span(0, 0)
	b.Gaps = []api.Gap{gap(1, 2, 2, 4), gap(1, 3, 5, 6), gap(2, 3, 2, 2)}
	return b
}

// row has stacks, from 1 on, without bales or papers, with a fire that began in the first of them at some minutes, and gaps.
func row(stacks int, start api.Span, l ...api.Gap) api.Blaze {
	b := api.Blaze{Books: api.Papers{Days: 1}, Begins: ints(1), Start: start, Gaps: l}
	for n := range stacks {
		b.House.Stacks = append(b.House.Stacks, pile(n+1, 1))
	}
	return b
}

// full has as many of all as there can be.
func full() api.Blaze {
	var b api.Blaze
	b.House.Stacks = []api.Stack{pile(1, 1, 1, 2, 3), pile(2, 2, 6, 5, 4), pile(5, 3, 7, 9, 8), pile(8, 4, 10, 11, 12), pile(9999, 5, 13, 14, 15)}
	for bale := range 20 {
		b.House.Owners = append(b.House.Owners, owned(bale+1, 1+bale%3))
	}
	// The bale on top of 2 goes out, and another one comes in, time and again.
	for n, bale := range ints(4, 16, 17, 18, 19) {
		b.House.Moves = append(b.House.Moves, api.Move{Day: 2*n + 1, Bale: bale}, api.Move{Day: 2*n + 1, Bale: 16 + n, To: 2})
	}
	b.Books = api.Papers{
		Days:   10,
		Papers: []api.Paper{sheet(1, 3, 5), sheet(4, 7, 6), sheet(9999, 9999, 5)},
		Passes: []api.Pass{pass(1, 1, 5, 6, 0, 3), pass(2, 4, 6, 5, 2, 4), pass(3, 9999, 5, 6, 0, 9), pass(4, 1, 6, 5, 3, 5), pass(5, 4, 5, 7, 4, 4), pass(6, 9999, 6, 5, 0, 9), pass(7, 1, 5, 8, 5, 6), pass(9999, 1, 8, 5, 6, 9)},
	}
	b.Day, b.Begins, b.Start = 9, ints(1, 2, 5, 8, 9999), span(10, 15)
	b.Gaps = []api.Gap{gap(1, 2, 3, 5), gap(1, 5, 4, 6), gap(2, 5, 1, 3), gap(2, 8, 7, 9), gap(5, 9999, 2, 4), gap(8, 9999, 0, 2)}
	for n := range 8 {
		b.Glances = append(b.Glances, glance(10*n+1, []int{1, 2, 5, 8, 9999}[n%5], 9+n%3, false))
	}
	b.Glances[7] = glance(9999, 8, 22, true)
	return b
}

func sameStack(a, b api.Stack) bool {
	return a.Id == b.Id && a.Row == b.Row && slices.Equal(a.Bales, b.Bales)
}

func sameHouse(a, b api.Warehouse) bool {
	return slices.EqualFunc(a.Stacks, b.Stacks, sameStack) && slices.Equal(a.Owners, b.Owners) && slices.Equal(a.Moves, b.Moves) && slices.Equal(a.Rain, b.Rain) && slices.Equal(a.Found, b.Found)
}

func sameBooks(a, b api.Papers) bool {
	return a.Days == b.Days && slices.Equal(a.Papers, b.Papers) && slices.Equal(a.Passes, b.Passes) && slices.Equal(a.Pledges, b.Pledges)
}

func same(a, b api.Blaze) bool {
	return sameHouse(a.House, b.House) && sameBooks(a.Books, b.Books) && a.Day == b.Day && slices.Equal(a.Begins, b.Begins) && a.Start == b.Start && slices.Equal(a.Gaps, b.Gaps) && slices.Equal(a.Glances, b.Glances)
}

func copied(b api.Blaze) api.Blaze {
	w, p := &b.House, &b.Books
	w.Stacks = slices.Clone(w.Stacks)
	for at := range w.Stacks {
		w.Stacks[at].Bales = slices.Clone(w.Stacks[at].Bales)
	}
	w.Owners, w.Moves, w.Rain, w.Found = slices.Clone(w.Owners), slices.Clone(w.Moves), slices.Clone(w.Rain), slices.Clone(w.Found)
	p.Papers, p.Passes, p.Pledges = slices.Clone(p.Papers), slices.Clone(p.Passes), slices.Clone(p.Pledges)
	b.Begins, b.Gaps, b.Glances = slices.Clone(b.Begins), slices.Clone(b.Gaps), slices.Clone(b.Glances)
	return b
}

// numbers returns those of the glances.
func numbers(b api.Blaze) []int {
	var l []int
	for _, x := range b.Glances {
		l = append(l, x.Number)
	}
	return l
}

// without returns the blaze without some glances.
func without(b api.Blaze, out []int) api.Blaze {
	b.Glances = slices.DeleteFunc(slices.Clone(b.Glances), func(x api.Glance) bool { return slices.Contains(out, x.Number) })
	return b
}

// more returns the blaze with a glance more, behind all others.
func more(b api.Blaze, of, minute int, burns bool) api.Blaze {
	b.Glances = append(slices.Clone(b.Glances), glance(9999, of, minute, burns))
	return b
}

// piles returns the stacks as they are on the Day.
func piles(b api.Blaze) []api.Stack {
	l, _ := stack.At(b.House, b.Day)
	return l
}

// stacks returns the Ids of all stacks.
func stacks(b api.Blaze) []int {
	var l []int
	for _, x := range b.House.Stacks {
		l = append(l, x.Id)
	}
	return l
}

// bales returns those that are in stacks on the Day, in increasing order.
func bales(b api.Blaze) []int {
	var l []int
	for _, x := range piles(b) {
		l = append(l, x.Bales...)
	}
	slices.Sort(l)
	return l
}

// houses are those that bales can belong to by chance, and some that they cannot.
func houses() []int { return ints(1, 2, 3, 4, 5, 0, -1, 10000) }

// truth is one of the fire: where it began, in which minute, how many minutes it took over each gap, and when each stack caught that did, by its Id.
type truth struct {
	began, start int
	took         []int
	caught       map[int]int
}

// comes tells in which minute each stack caught, of all ways on which no stack is twice: those to which there is none never did.
func comes(b api.Blaze, x truth) map[int]int {
	type way struct {
		on     []int
		minute int
	}
	caught := map[int]int{}
	l := []way{{ints(x.began), x.start}}
	for at := 0; at < len(l); at++ {
		last := l[at].on[len(l[at].on)-1]
		if n, is := caught[last]; !is || l[at].minute < n {
			caught[last] = l[at].minute
		}
		for i, g := range b.Gaps {
			for _, ends := range [][2]int{{g.A, g.B}, {g.B, g.A}} {
				if ends[0] == last && !slices.Contains(l[at].on, ends[1]) {
					l = append(l, way{append(slices.Clone(l[at].on), ends[1]), l[at].minute + x.took[i]})
				}
			}
		}
	}
	return caught
}

// had tells whether a stack had caught in a minute or before it.
func (x truth) had(of, minute int) bool {
	n, is := x.caught[of]
	return is && n <= minute
}

// fits tells whether all is as some glances say.
func (x truth) fits(l []api.Glance) bool {
	return !slices.ContainsFunc(l, func(g api.Glance) bool { return x.had(g.Stack, g.Minute) != g.Burns })
}

// size is how large blazes by chance may be: stacks, gaps, by how much the last minute in which it can have begun is later than the first one, passes of a paper, days, glances, and how many of a hundred glances are false.
type size struct{ stacks, gaps, starts, hands, days, glances, odd int }

func small() size { return size{4, 4, 2, 2, 4, 4, 5} }

func large() size {
	return size{api.MaxStacks, api.MaxGaps, 5, 4, api.MaxTerm, api.MaxGlances, 0}
}

// untrue ones have many glances, of which many are false.
func untrue() size { return size{4, 4, 2, 1, 3, api.MaxGlances, 30} }

// rising returns so many numbers by chance, in increasing order, each at most so much above the one before it.
func rising(c *rand.Rand, n, step int) []int {
	var l []int
	last := 0
	for range n {
		last += 1 + c.Intn(step)
		l = append(l, last)
	}
	return l
}

// some returns things of a list by chance, in their order: from a least number of them to a greatest one, if there are so many.
func some[T any](c *rand.Rand, l []T, least, most int) []T {
	at := c.Perm(len(l))[:min(least+c.Intn(most-least+1), len(l))]
	slices.Sort(at)
	var out []T
	for _, i := range at {
		out = append(out, l[i])
	}
	return out
}

// anyHouse returns a valid warehouse by chance, with some moves.
func anyHouse(c *rand.Rand, s size) api.Warehouse {
	var w api.Warehouse
	ids := rising(c, 2*s.stacks+2, 3)
	for _, bale := range ids {
		w.Owners = append(w.Owners, owned(bale, 1+c.Intn(4)))
	}
	c.Shuffle(len(ids), func(i, j int) { ids[i], ids[j] = ids[j], ids[i] })
	for _, id := range rising(c, 1+c.Intn(s.stacks), 3) {
		n := min(c.Intn(api.MaxHigh+1), len(ids))
		w.Stacks, ids = append(w.Stacks, pile(id, 1+c.Intn(api.MaxRows), ids[:n:n]...)), ids[n:]
	}
	for range 3 * c.Intn(4) {
		to := 0
		if c.Intn(4) > 0 {
			to = w.Stacks[c.Intn(len(w.Stacks))].Id
		}
		// Many moves cannot be.
		if y, e := stack.Do(w, api.Move{Day: 1 + len(w.Moves), Bale: w.Owners[c.Intn(len(w.Owners))].Bale, To: to}); e == api.OK {
			w = y
		}
	}
	return w
}

// anyBooks returns valid papers by chance of some bales, and of others, whose passes come from a truth; few have none.
func anyBooks(c *rand.Rand, s size, bales []int) api.Papers {
	p := api.Papers{Days: 1 + c.Intn(s.days)}
	for i, bale := range some(c, append(bales, 9999), 1, api.MaxPapers) {
		x := sheet(i+1, bale, 1+c.Intn(4))
		p.Papers = append(p.Papers, x)
		at, day := x.Holder, 0
		for range c.Intn(s.hands + 1) {
			day += c.Intn(p.Days - day)
			to := 1 + at%4
			y := pass(0, x.Id, at, to, max(0, day-c.Intn(2)), min(p.Days-1, day+c.Intn(3)))
			if len(p.Passes) < api.MaxPasses {
				p.Passes = append(p.Passes, y)
			}
			at = to
		}
	}
	if len(p.Passes) > 0 && c.Intn(8) == 0 {
		p.Passes[0].From = 5
	}
	c.Shuffle(len(p.Passes), func(i, j int) { p.Passes[i], p.Passes[j] = p.Passes[j], p.Passes[i] })
	for i, number := range rising(c, len(p.Passes), 3) {
		p.Passes[i].Number = number
	}
	return p
}

// anyGaps returns some by chance between stacks.
func anyGaps(c *rand.Rand, s size, ids []int) []api.Gap {
	var l []api.Gap
	for i, a := range ids {
		for _, b := range ids[i+1:] {
			lo := c.Intn(5)
			l = append(l, gap(a, b, lo, lo+c.Intn(api.MaxSlack+1)))
		}
	}
	return some(c, l, 0, s.gaps)
}

// anyTruth returns one of the fire by chance, if nothing was seen.
func anyTruth(c *rand.Rand, b api.Blaze) truth {
	x := truth{began: b.Begins[c.Intn(len(b.Begins))], start: b.Start.Lo + c.Intn(b.Start.Hi-b.Start.Lo+1)}
	for _, g := range b.Gaps {
		x.took = append(x.took, g.Minutes.Lo+c.Intn(g.Minutes.Hi-g.Minutes.Lo+1))
	}
	x.caught = comes(b, x)
	return x
}

// anyBlaze returns a valid blaze by chance, and a truth of the fire from which its glances come, but for odd ones.
func anyBlaze(c *rand.Rand, s size) (api.Blaze, truth) {
	b := api.Blaze{House: anyHouse(c, s)}
	var bales []int
	for _, x := range b.House.Owners {
		bales = append(bales, x.Bale)
	}
	b.Books = anyBooks(c, s, bales)
	b.Day = c.Intn(b.Books.Days)
	if n := len(b.Books.Passes); n > 0 && c.Intn(2) == 0 {
		// On this day it is often open who holds a paper.
		b.Day = b.Books.Passes[c.Intn(n)].When.Lo
	}
	ids := stacks(b)
	b.Begins = some(c, ids, 1, len(ids))
	lo := c.Intn(4)
	b.Start = span(lo, lo+c.Intn(s.starts+1))
	b.Gaps = anyGaps(c, s, ids)
	x := anyTruth(c, b)
	for _, number := range rising(c, c.Intn(s.glances+1), 4) {
		of := ids[c.Intn(len(ids))]
		minute, is := x.caught[of]
		minute = max(0, minute-2+c.Intn(4))
		if !is {
			minute = c.Intn(20)
		}
		b.Glances = append(b.Glances, glance(number, of, minute, x.had(of, minute) != (c.Intn(100) < s.odd)))
	}
	return b, x
}

// eachBlaze runs a test for some blazes by chance.
func eachBlaze(t interface{ Fatal(...any) }, n int, s size, test func(b api.Blaze, x truth, c *rand.Rand) bool) {
	c := rand.New(rand.NewSource(11))
	for range n {
		b, x := anyBlaze(c, s)
		if e := fire.Check(b); e != api.OK {
			t.Fatal(b, e)
		}
		if !test(b, x, c) {
			t.Fatal(b)
		}
	}
}
