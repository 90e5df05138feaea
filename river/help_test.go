package river_test

import (
	"math/rand"
	"slices"

	"middling/api"
	"middling/river"
	"middling/stack"
)

func ints(l ...int) []int { return l }

func span(lo, hi int) api.Span { return api.Span{Lo: lo, Hi: hi} }

func pile(id, row int, bales ...int) api.Stack { return api.Stack{Id: id, Row: row, Bales: bales} }

func owned(bale, owner int) api.Owned { return api.Owned{Bale: bale, Owner: owner} }

func gang(id, comes, takes int) api.Gang { return api.Gang{Id: id, Comes: comes, Takes: takes} }

func worth(bale, pence int) api.Worth { return api.Worth{Bale: bale, Pence: pence} }

func report(number, level, minute int, is bool) api.Report {
	return api.Report{Number: number, Level: level, Minute: minute, Is: is}
}

func loss(owner, pence int) api.Loss { return api.Loss{Owner: owner, Pence: pence} }

// house is the warehouse of the examples of layer 8: 11 and 12, 21 and 41, 31 and 13 are in it at last.
func house() api.Warehouse {
	return api.Warehouse{
		Stacks: []api.Stack{pile(1, 1, 11, 12, 13), pile(2, 1, 21, 22), pile(3, 2, 31)},
		Owners: []api.Owned{owned(11, 1), owned(12, 1), owned(13, 2), owned(21, 2), owned(22, 2), owned(31, 1), owned(41, 2)},
		Moves:  []api.Move{{Day: 2, Bale: 13, To: 3}, {Day: 4, Bale: 22}, {Day: 5, Bale: 41, To: 2}},
		Rain:   ints(1, 3, 6),
		Found:  []api.Found{{Number: 1, Bale: 13, Wet: true}, {Number: 2, Bale: 12}},
	}
}

// example is the flood of the chapter's examples, with reports.
func example(l ...api.Report) api.Flood {
	return api.Flood{
		House:   house(),
		Levels:  []api.Span{span(20, 30), span(30, 45), span(40, 60), span(50, 80), span(60, 100), span(70, 120), span(80, 140)},
		Gap:     5,
		Gangs:   []api.Gang{gang(1, 0, 10), gang(2, 5, 12)},
		Worths:  []api.Worth{worth(11, 500), worth(12, 300), worth(13, 100), worth(21, 400), worth(31, 450), worth(41, 200)},
		Reports: l,
	}
}

// changed is the flood of the examples, but for something.
func changed(change func(f *api.Flood)) api.Flood {
	f := example()
	change(&f)
	return f
}

// by is the flood of the examples with other gangs.
func by(l ...api.Gang) api.Flood { return changed(func(f *api.Flood) { f.Gangs = l }) }

// known is the flood of the examples with two of its reports.
func known() api.Flood { return example(report(1, 2, 34, false), report(2, 1, 22, true)) }

// odd has no truth, with the third report of the examples.
func odd() api.Flood {
	return example(report(1, 2, 34, false), report(2, 1, 22, true), report(3, 2, 33, true))
}

// many has no truth as long as one of four reports is there.
func many() api.Flood {
	return example(report(1, 1, 19, true), report(2, 2, 29, true), report(3, 3, 60, false), report(4, 7, 600, false))
}

// never has no truth, whatever was told: from level to level it is longer than there is time.
func never() api.Flood {
	f := odd()
	f.Gap = 60
	return f
}

// broken is not valid: 13 is worth nothing.
func broken() api.Flood { return changed(func(f *api.Flood) { f.Worths[2].Pence = 0 }) }

// rows has stacks, levels that are reached in some minutes for sure, one load in each minute, and bales that are worth ten times their Ids.
func rows(minutes []int, l ...api.Stack) api.Flood {
	f := api.Flood{House: api.Warehouse{Stacks: l}, Gangs: []api.Gang{gang(1, 0, 1)}}
	for bale := 1; bale <= 20; bale++ {
		f.House.Owners, f.Worths = append(f.House.Owners, owned(bale, 1+bale%2)), append(f.Worths, worth(bale, 10*bale))
	}
	for _, n := range minutes {
		f.Levels = append(f.Levels, span(n, n))
	}
	return f
}

// full has as many of all as there can be.
func full() api.Flood {
	f := rows(ints(4, 8, 12, 16, 20, 24, 28), pile(1, 1, 1, 2, 3), pile(2, 2, 6, 5, 4), pile(5, 3, 7, 9, 8), pile(8, 4, 10, 11, 12), pile(9999, 5, 13, 14, 15))
	for at := range f.Levels {
		f.Levels[at].Hi += 9
	}
	f.Gap, f.Gangs = 4, []api.Gang{gang(1, 0, 3), gang(7, 1, 4), gang(9999, 2, 5)}
	for n := range 8 {
		f.Reports = append(f.Reports, report(10*n+1, 1+n%7, 2+5*n, n%7 > 4))
	}
	f.Reports[7] = report(9999, 2, 9, false)
	return f
}

func sameStack(a, b api.Stack) bool {
	return a.Id == b.Id && a.Row == b.Row && slices.Equal(a.Bales, b.Bales)
}

func sameHouse(a, b api.Warehouse) bool {
	return slices.EqualFunc(a.Stacks, b.Stacks, sameStack) && slices.Equal(a.Owners, b.Owners) && slices.Equal(a.Moves, b.Moves) && slices.Equal(a.Rain, b.Rain) && slices.Equal(a.Found, b.Found)
}

func same(a, b api.Flood) bool {
	return sameHouse(a.House, b.House) && slices.Equal(a.Levels, b.Levels) && a.Gap == b.Gap && slices.Equal(a.Gangs, b.Gangs) && slices.Equal(a.Worths, b.Worths) && slices.Equal(a.Reports, b.Reports)
}

func copied(f api.Flood) api.Flood {
	w := &f.House
	w.Stacks = slices.Clone(w.Stacks)
	for at := range w.Stacks {
		w.Stacks[at].Bales = slices.Clone(w.Stacks[at].Bales)
	}
	w.Owners, w.Moves, w.Rain, w.Found = slices.Clone(w.Owners), slices.Clone(w.Moves), slices.Clone(w.Rain), slices.Clone(w.Found)
	f.Levels, f.Gangs, f.Worths, f.Reports = slices.Clone(f.Levels), slices.Clone(f.Gangs), slices.Clone(f.Worths), slices.Clone(f.Reports)
	return f
}

// numbers returns those of the reports.
func numbers(f api.Flood) []int {
	var l []int
	for _, x := range f.Reports {
		l = append(l, x.Number)
	}
	return l
}

// without returns the flood without some reports.
func without(f api.Flood, out []int) api.Flood {
	f.Reports = slices.DeleteFunc(slices.Clone(f.Reports), func(x api.Report) bool { return slices.Contains(out, x.Number) })
	return f
}

// more returns the flood with a report more, behind all others.
func more(f api.Flood, level, minute int, is bool) api.Flood {
	f.Reports = append(slices.Clone(f.Reports), report(9999, level, minute, is))
	return f
}

// piles returns the stacks as they are at last.
func piles(f api.Flood) []api.Stack {
	l, _ := stack.At(f.House, api.MaxDays)
	return l
}

// bales returns those that are in the house at last.
func bales(f api.Flood) []int {
	var l []int
	for _, x := range piles(f) {
		l = append(l, x.Bales...)
	}
	return l
}

// penceOf returns what bales are worth together.
func penceOf(f api.Flood, bales ...int) int {
	n := 0
	for _, x := range f.Worths {
		if slices.Contains(bales, x.Bale) {
			n += x.Pence
		}
	}
	return n
}

// size is how large floods by chance may be, how far minutes of a level may differ, and how many of a hundred reports are false.
type size struct{ stacks, bales, wide, reports, odd int }

func small() size { return size{3, 5, 2, 4, 15} }

func large() size { return size{api.MaxStacks, 15, 30, api.MaxReports, 0} }

// untrue ones have many reports, of which many are false.
func untrue() size { return size{3, 5, 2, api.MaxReports, 30} }

// rising returns so many numbers by chance, in increasing order, each at most so much above the one before it.
func rising(c *rand.Rand, n, step int) []int {
	var l []int
	last := 0
	for range n {
		last += 1 + c.Intn(step)
		l = append(l, last)
	}
	return l
}

// anyHouse returns a valid warehouse by chance, with some moves.
func anyHouse(c *rand.Rand, s size) api.Warehouse {
	var w api.Warehouse
	ids := rising(c, s.bales, 3)
	for _, bale := range ids {
		w.Owners = append(w.Owners, owned(bale, 1+c.Intn(3)))
	}
	c.Shuffle(len(ids), func(i, j int) { ids[i], ids[j] = ids[j], ids[i] })
	for _, id := range rising(c, 1+c.Intn(s.stacks), 3) {
		n := min(c.Intn(api.MaxHigh+1), len(ids))
		w.Stacks, ids = append(w.Stacks, pile(id, 1+c.Intn(api.MaxRows), ids[:n:n]...)), ids[n:]
	}
	for range 3 * c.Intn(4) {
		to := 0
		if c.Intn(4) > 0 {
			to = w.Stacks[c.Intn(len(w.Stacks))].Id
		}
		// Many moves cannot be.
		if y, e := stack.Do(w, api.Move{Day: 1 + len(w.Moves), Bale: w.Owners[c.Intn(len(w.Owners))].Bale, To: to}); e == api.OK {
			w = y
		}
	}
	return w
}

// anyLevels returns levels by chance, which are reached soon, and a truth of them; some levels have no truth.
func anyLevels(c *rand.Rand, s size, gap int) ([]api.Span, []int) {
	var l []api.Span
	var truth []int
	minute := c.Intn(10)
	for range api.MaxLevels {
		l = append(l, span(max(0, minute-c.Intn(s.wide+1)), minute+c.Intn(s.wide+1)))
		truth = append(truth, minute)
		minute += gap + c.Intn(7)
	}
	if c.Intn(12) == 0 {
		l[2] = span(minute, minute)
	}
	return l, truth
}

// isTruth tells whether a list of minutes, of the levels in order, is a truth.
func isTruth(f api.Flood, l []int) bool {
	if len(l) != api.MaxLevels {
		return false
	}
	for at, n := range l {
		if n < f.Levels[at].Lo || n > f.Levels[at].Hi || at > 0 && n < l[at-1]+f.Gap {
			return false
		}
	}
	return !slices.ContainsFunc(f.Reports, func(x api.Report) bool { return (l[x.Level-1] <= x.Minute) != x.Is })
}

// anyReports returns some by chance that are so in a truth, but for odd ones.
func anyReports(c *rand.Rand, s size, truth []int) []api.Report {
	var l []api.Report
	for _, number := range rising(c, c.Intn(s.reports+1), 4) {
		level := 1 + c.Intn(api.MaxLevels)
		minute := max(0, truth[level-1]-3+c.Intn(6))
		l = append(l, report(number, level, minute, (truth[level-1] <= minute) != (c.Intn(100) < s.odd)))
	}
	return l
}

// anyGang returns one by chance.
func anyGang(c *rand.Rand, id int) api.Gang { return gang(id, c.Intn(12), 1+c.Intn(8)) }

// anyFlood returns a valid flood by chance; some have no truth, also without all reports.
func anyFlood(c *rand.Rand, s size) api.Flood {
	f := api.Flood{House: anyHouse(c, s), Gap: c.Intn(4)}
	var truth []int
	f.Levels, truth = anyLevels(c, s, f.Gap)
	for _, x := range f.House.Owners {
		// Bales are often worth as much as others are.
		f.Worths = append(f.Worths, worth(x.Bale, 10*(1+c.Intn(6))))
	}
	for _, id := range rising(c, (c.Intn(7)+2)/2%4, 3) {
		f.Gangs = append(f.Gangs, anyGang(c, id))
	}
	f.Reports = anyReports(c, s, truth)
	return f
}

// eachFlood runs a test for some floods by chance.
func eachFlood(t interface{ Fatal(...any) }, n int, s size, test func(f api.Flood, c *rand.Rand) bool) {
	c := rand.New(rand.NewSource(10))
	for range n {
		f := anyFlood(c, s)
		if e := river.Check(f); e != api.OK {
			t.Fatal(f, e)
		}
		if !test(f, c) {
			t.Fatal(f)
		}
	}
}
