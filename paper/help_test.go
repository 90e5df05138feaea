package paper_test

import (
	"math/rand"
	"slices"

	"middling/api"
	"middling/paper"
)

func ints(l ...int) []int { return l }

func span(lo, hi int) api.Span { return api.Span{Lo: lo, Hi: hi} }

func sheet(id, bale, holder int) api.Paper { return api.Paper{Id: id, Bale: bale, Holder: holder} }

func pass(number, of, from, to, lo, hi int) api.Pass {
	return api.Pass{Number: number, Paper: of, From: from, To: to, When: span(lo, hi)}
}

func pledge(number, of, by, bank int, from, until api.Span) api.Pledge {
	return api.Pledge{Number: number, Paper: of, By: by, Bank: bank, From: from, Until: until}
}

// example is the papers of the chapter's examples, with passes more.
func example(more ...api.Pass) api.Papers {
	return api.Papers{
		Days:   6,
		Papers: []api.Paper{sheet(1, 10, 5), sheet(2, 11, 6)},
		Passes: append([]api.Pass{pass(1, 1, 5, 6, 1, 3), pass(2, 1, 6, 5, 2, 2), pass(3, 1, 5, 7, 1, 4), pass(4, 2, 6, 7, 0, 5), pass(5, 2, 7, 6, 2, 3), pass(6, 2, 6, 7, 3, 4)}, more...),
		Pledges: []api.Pledge{
			pledge(1, 2, 7, 90, span(4, 4), span(5, 5)), pledge(2, 1, 5, 90, span(0, 0), span(0, 1)), pledge(3, 1, 5, 91, span(1, 2), span(2, 2)),
		},
	}
}

// changed is the papers of the examples, but for something.
func changed(change func(p *api.Papers)) api.Papers {
	p := example()
	change(&p)
	return p
}

// odd has no truth of the paper 1.
func odd() api.Papers { return example(pass(7, 1, 6, 5, 0, 0)) }

// broken is not valid: one Number is there twice.
func broken() api.Papers { return changed(func(p *api.Papers) { p.Passes[1].Number = 1 }) }

// gone is the paper 4, that 5 holds at first, with passes in some days.
func gone(days int, l ...api.Pass) api.Papers {
	return api.Papers{Days: days, Papers: []api.Paper{sheet(4, 1, 5)}, Passes: l}
}

// lent is the paper 4, that 5 holds for ten days, with pledges from some days until some days.
func lent(l ...[2]api.Span) api.Papers {
	p := gone(10)
	for i, x := range l {
		p.Pledges = append(p.Pledges, pledge(i+1, 4, 5, 90+i, x[0], x[1]))
	}
	return p
}

// term is one from some days until some days, as lent takes it.
func term(a, b, c, d int) [2]api.Span { return [2]api.Span{span(a, b), span(c, d)} }

// full has as many of all as there can be.
func full() api.Papers {
	p := example(pass(10, 2, 7, 6, 5, 5), pass(9999, 2, 6, 7, 5, 5))
	p.Papers = append(p.Papers, sheet(9999, 10, 9999))
	p.Pledges = append(p.Pledges, pledge(10, 1, 7, 90, span(0, 5), span(0, 5)), pledge(20, 9999, 1, 90, span(0, 5), span(0, 5)), pledge(9999, 2, 7, 90, span(0, 0), span(0, 0)))
	return p
}

func same(a, b api.Papers) bool {
	return a.Days == b.Days && slices.Equal(a.Papers, b.Papers) && slices.Equal(a.Passes, b.Passes) && slices.Equal(a.Pledges, b.Pledges)
}

func copied(p api.Papers) api.Papers {
	p.Papers, p.Passes, p.Pledges = slices.Clone(p.Papers), slices.Clone(p.Passes), slices.Clone(p.Pledges)
	return p
}

func sheets(p api.Papers) []int {
	var l []int
	for _, x := range p.Papers {
		l = append(l, x.Id)
	}
	return l
}

func passes(p api.Papers) []int {
	var l []int
	for _, x := range p.Passes {
		l = append(l, x.Number)
	}
	return l
}

func pledges(p api.Papers) []int {
	var l []int
	for _, x := range p.Pledges {
		l = append(l, x.Number)
	}
	return l
}

// without returns the papers without some passes.
func without(p api.Papers, out []int) api.Papers {
	p.Passes = slices.DeleteFunc(slices.Clone(p.Passes), func(x api.Pass) bool { return slices.Contains(out, x.Number) })
	return p
}

// houses returns those that any paper can come to, and some that none can.
func houses() []int { return ints(-1, 0, 1, 2, 3, 4, 5, 9, 10000) }

// size is how large papers by chance may be, how many houses there are, how wide spans are, and how many of a hundred passes say anything at all.
type size struct{ days, papers, hands, pledges, houses, wide, odd int }

func small() size { return size{4, 2, 4, 3, 3, 3, 10} }

func large() size { return size{api.MaxTerm, api.MaxPapers, api.MaxHands, api.MaxPledges, 5, 4, 0} }

// untrue ones have passes of which many are wrong.
func untrue() size { return size{3, 2, 5, 0, 3, 2, 35} }

// hidden is a truth from which papers are made: who holds each one, day by day, and the Numbers in order; the days of passes, and the terms of pledges, by their Numbers.
type hidden struct {
	holders, orders map[int][]int
	days            map[int]int
	terms           map[int]api.Span
}

// around returns a span by chance with a number in it, that goes no further than some ends.
func around(r *rand.Rand, n, wide int, ends api.Span) api.Span {
	return span(max(ends.Lo, n-r.Intn(wide)), min(ends.Hi, n+r.Intn(wide)))
}

// increasing returns so many Numbers by chance.
func increasing(r *rand.Rand, n int) []int {
	var l []int
	last := 0
	for range n {
		last += 1 + r.Intn(3)
		l = append(l, last)
	}
	return l
}

// made is a pass that was made on a day.
type made struct {
	api.Pass
	day int
}

// walk returns passes by chance by which a paper goes on from house to house, day by day.
func walk(r *rand.Rand, x api.Paper, days int, s size) []made {
	var l []made
	var on []int
	for range r.Intn(s.hands + 1) {
		on = append(on, r.Intn(days))
	}
	slices.Sort(on)
	at := x.Holder
	for _, day := range on {
		// Any house but the one that has it.
		to := 1 + (at+r.Intn(s.houses-1))%s.houses
		l = append(l, made{pass(0, x.Id, at, to, day, day), day})
		at = to
	}
	return l
}

// anyPapers returns valid papers by chance, whose passes come from a truth, but for odd ones, and this truth.
func anyPapers(r *rand.Rand, s size) (api.Papers, hidden) {
	h := hidden{map[int][]int{}, map[int][]int{}, map[int]int{}, map[int]api.Span{}}
	p := api.Papers{Days: 1 + r.Intn(s.days)}
	var all []made
	for _, id := range increasing(r, 1+r.Intn(s.papers)) {
		x := sheet(id, 1+r.Intn(api.MaxId), 1+r.Intn(s.houses))
		p.Papers = append(p.Papers, x)
		l := walk(r, x, p.Days, s)
		all = append(all, l[:min(len(l), api.MaxPasses-len(all))]...)
	}
	numbers := increasing(r, len(all))
	for i, at := range r.Perm(len(all)) {
		all[at].Number = numbers[i]
	}
	for _, x := range all {
		h.orders[x.Paper] = append(h.orders[x.Paper], x.Number)
		h.days[x.Number] = x.day
	}
	for _, x := range p.Papers {
		h.holders[x.Id] = holdersIn(p.Days, x, all)
	}
	slices.SortFunc(all, func(a, b made) int { return a.Number - b.Number })
	for _, x := range all {
		x.When = around(r, x.day, s.wide, span(0, p.Days-1))
		if r.Intn(100) < s.odd {
			x.From, x.To = x.To, 1+(x.To+r.Intn(s.houses-1))%s.houses
		}
		p.Passes = append(p.Passes, x.Pass)
	}
	p.Pledges = anyPledges(r, p, s, h)
	return p, h
}

// holdersIn tells who holds a paper at the end of each day if passes are made so, in this order.
func holdersIn(days int, x api.Paper, all []made) []int {
	var l []int
	for day := range days {
		at := x.Holder
		for _, y := range all {
			if y.Paper == x.Id && y.day <= day {
				at = y.To
			}
		}
		l = append(l, at)
	}
	return l
}

// anyPledges returns pledges by chance from a truth, the terms of which it writes down; many are by who holds the paper.
func anyPledges(r *rand.Rand, p api.Papers, s size, h hidden) []api.Pledge {
	var l []api.Pledge
	of := map[int]int{}
	for _, number := range increasing(r, r.Intn(s.pledges+1)) {
		id := p.Papers[r.Intn(len(p.Papers))].Id
		if of[id] == api.MaxLiens {
			continue
		}
		of[id]++
		a, b := r.Intn(p.Days), r.Intn(p.Days)
		t := span(min(a, b), max(a, b))
		by := h.holders[id][t.Lo]
		if r.Intn(4) == 0 {
			by = 1 + r.Intn(s.houses)
		}
		days := span(0, p.Days-1)
		l = append(l, pledge(number, id, by, 90+r.Intn(3), around(r, t.Lo, s.wide, days), around(r, t.Hi, s.wide, days)))
		h.terms[number] = t
	}
	return l
}

// eachPapers runs a test for some papers by chance.
func eachPapers(t interface{ Fatal(...any) }, n int, s size, test func(p api.Papers, h hidden, r *rand.Rand) bool) {
	r := rand.New(rand.NewSource(7))
	for range n {
		p, h := anyPapers(r, s)
		if e := paper.Check(p); e != api.OK {
			t.Fatal(p, e)
		}
		if !test(p, h, r) {
			t.Fatal(p)
		}
	}
}

func can(p api.Papers) bool {
	is, e := paper.Can(p)
	return is && e == api.OK
}

func holder(p api.Papers, id, day int) []int {
	l, _ := paper.Holder(p, id, day)
	return l
}

func known(p api.Papers, id, house, day int) uint8 {
	k, _ := paper.Known(p, id, house, day)
	return k
}

func orders(p api.Papers, id int) [][]int {
	l, _ := paper.Orders(p, id)
	return l
}

func inside(a, b api.Span) bool { return a.Lo >= b.Lo && a.Hi <= b.Hi && a.Lo <= a.Hi }

func has(s api.Span, n int) bool { return inside(span(n, n), s) }
