package paper_test

import (
	"math"
	"math/rand"
	"slices"
	"testing"

	"middling/api"
	"middling/paper"
	"middling/testhelp"
)

// eachTrue runs a test for each of some large papers that have a truth, and for one that is known.
func eachTrue(t *testing.T, n int, test func(p api.Papers, h hidden, r *rand.Rand) bool) {
	eachPapers(t, n, large(), func(p api.Papers, h hidden, r *rand.Rand) bool {
		if !can(p) {
			t.Fatal("no truth", p)
		}
		return test(p, h, r)
	})
}

// isSo reports whether what is known allows what is so in a truth.
func isSo(k uint8, so bool) bool {
	return k == api.KnownOpen || (k == api.KnownYes) == so
}

// P7.8, N5: what is told holds of a truth that is known.
func TestTruthIsWithin(t *testing.T) {
	eachTrue(t, 300, func(p api.Papers, h hidden, _ *rand.Rand) bool {
		for _, x := range p.Papers {
			if !slices.ContainsFunc(orders(p, x.Id), func(l []int) bool { return slices.Equal(l, h.orders[x.Id]) }) {
				return false
			}
			for day, house := range h.holders[x.Id] {
				if !slices.Contains(holder(p, x.Id, day), house) || !isSo(known(p, x.Id, house, day), true) || !isSo(known(p, x.Id, 77, day), false) {
					return false
				}
			}
		}
		for _, x := range p.Passes {
			if s, e := paper.When(p, x.Number); !has(s, h.days[x.Number]) || !inside(s, x.When) || e != api.OK {
				return false
			}
		}
		for day := range p.Days {
			for house := range 6 {
				n := 0
				for _, x := range p.Papers {
					n += is(h.holders[x.Id][day] == house)
				}
				if s, e := paper.Holds(p, house, day); !has(s, n) || e != api.OK {
					return false
				}
			}
		}
		return pledgesAreWithin(p, h)
	})
}

// pledgesAreWithin reports whether what is told of pledges holds of a truth.
func pledgesAreWithin(p api.Papers, h hidden) bool {
	for _, x := range p.Pledges {
		s := h.terms[x.Number]
		good := !slices.ContainsFunc(h.holders[x.Paper][s.Lo:s.Hi+1], func(house int) bool { return house != x.By })
		if k, e := paper.Good(p, x.Number); !isSo(k, good) || e != api.OK {
			return false
		}
		for day := s.Lo; day <= s.Hi; day++ {
			if l, e := paper.Bank(p, x.Paper, day); !slices.Contains(l, x.Bank) || e != api.OK {
				return false
			}
		}
		for _, y := range p.Pledges {
			k, e := paper.Rank(p, x.Number, y.Number)
			if e == api.OK && !isSo(k, s.Lo < h.terms[y.Number].Lo) {
				return false
			}
		}
	}
	for _, x := range p.Papers {
		var terms []api.Span
		for _, y := range p.Pledges {
			if y.Paper == x.Id {
				terms = append(terms, h.terms[y.Number])
			}
		}
		day := firstTwice(p.Days, terms)
		since, e := paper.Since(p, x.Id)
		if k, f := paper.Twice(p, x.Id); !isSo(k, day >= 0) || f != api.OK || day >= 0 && (e != api.OK || since > day) {
			return false
		}
	}
	return true
}

// knowns returns all that is known of papers, or open.
func knowns(p api.Papers) []uint8 {
	var l []uint8
	add := func(k uint8, e api.Errno) { l = append(l, k) }
	for _, x := range p.Papers {
		for day := range p.Days {
			for house := range 6 {
				add(paper.Known(p, x.Id, house, day))
			}
		}
		add(paper.Twice(p, x.Id))
	}
	for _, x := range p.Pledges {
		add(paper.Good(p, x.Number))
		for _, y := range p.Pledges {
			add(paper.Rank(p, x.Number, y.Number))
		}
	}
	return l
}

// P7.8: what is learned of the days of a pass, or of a pledge, never makes less known.
func TestMoreIsKnown(t *testing.T) {
	surer := 0
	eachTrue(t, 200, func(p api.Papers, h hidden, r *rand.Rand) bool {
		more := copied(p)
		for i, x := range p.Passes {
			if r.Intn(2) == 0 {
				day := h.days[x.Number]
				more.Passes[i].When = span(max(x.When.Lo, day-r.Intn(2)), min(x.When.Hi, day+r.Intn(2)))
			}
		}
		for i, x := range p.Pledges {
			if r.Intn(2) == 0 {
				s := h.terms[x.Number]
				more.Pledges[i].From, more.Pledges[i].Until = span(s.Lo, s.Lo), span(s.Hi, s.Hi)
			}
		}
		now := knowns(more)
		for i, k := range knowns(p) {
			if k != api.KnownOpen && now[i] != k {
				return false
			}
			surer += is(k != now[i])
		}
		for _, x := range p.Passes {
			s, _ := paper.When(p, x.Number)
			if u, e := paper.When(more, x.Number); !inside(u, s) || e != api.OK {
				return false
			}
		}
		return true
	})
	if surer < 300 {
		t.Error(surer)
	}
}

// P7.9: each order begins with the Holder, goes on from hand to hand, and has all passes of the paper; they come in order.
func TestOrdersGoOn(t *testing.T) {
	several := 0
	eachTrue(t, 500, func(p api.Papers, _ hidden, _ *rand.Rand) bool {
		for _, x := range p.Papers {
			all := 0
			for _, y := range p.Passes {
				all += is(y.Paper == x.Id)
			}
			l := orders(p, x.Id)
			several += is(len(l) > 1)
			if len(l) == 0 || !slices.IsSortedFunc(l, slices.Compare) || len(slices.CompactFunc(slices.Clone(l), slices.Equal)) != len(l) {
				return false
			}
			for _, order := range l {
				at := x.Holder
				for _, n := range order {
					y := p.Passes[slices.Index(passes(p), n)]
					if y.Paper != x.Id || y.From != at {
						return false
					}
					at = y.To
				}
				if len(testhelp.Sorted(slices.Clone(order))) != all || len(order) != all {
					return false
				}
			}
		}
		return true
	})
	if several < 30 {
		t.Error(several)
	}
}

// P7.10: somebody holds each paper on each day, of no two it is sure, and all houses together hold each one once.
func TestSomebodyHolds(t *testing.T) {
	eachTrue(t, 300, func(p api.Papers, _ hidden, _ *rand.Rand) bool {
		for day := range p.Days {
			sure := 0
			for _, x := range p.Papers {
				l := holder(p, x.Id, day)
				want := uint8(api.KnownOpen)
				if len(l) == 1 {
					want = api.KnownYes
					sure++
				}
				if len(l) == 0 || slices.ContainsFunc(l, func(house int) bool { return known(p, x.Id, house, day) != want }) {
					return false
				}
			}
			least, most := 0, 0
			for house := range 6 {
				s, e := paper.Holds(p, house, day)
				if e != api.OK || s.Lo < 0 || s.Hi > len(p.Papers) {
					return false
				}
				least, most = least+s.Lo, most+s.Hi
			}
			// Each paper is held by one house for sure, or can be by several ones.
			if least != sure || most < len(p.Papers) || (most == len(p.Papers)) != (sure == len(p.Papers)) {
				return false
			}
		}
		return true
	})
}

// P7.11: of a paper that is called pledged twice no terms of its pledges are apart; who is before whom is so the other way round.
func TestTwiceIsSure(t *testing.T) {
	counts := map[uint8]int{}
	eachTrue(t, 300, func(p api.Papers, _ hidden, r *rand.Rand) bool {
		w := words{Papers: p, terms: map[int][]api.Span{}}
		for _, x := range p.Pledges {
			w.terms[x.Number] = termsOf(p, x)
		}
		for _, x := range p.Papers {
			k, e := paper.Twice(p, x.Id)
			counts[k]++
			so, not := false, false
			w.together(x.Id, func(terms []api.Span) {
				twice := firstTwice(p.Days, terms) >= 0
				so, not = so || twice, not || !twice
			})
			if e != api.OK || (k != api.KnownNo) != so || (k != api.KnownYes) != not {
				return false
			}
		}
		for _, x := range p.Pledges {
			for _, y := range p.Pledges {
				k, e := paper.Rank(p, x.Number, y.Number)
				other, f := paper.Rank(p, y.Number, x.Number)
				if e != f || k == api.KnownYes && other != api.KnownNo {
					return false
				}
			}
		}
		return true
	})
	if counts[api.KnownNo] < 100 || counts[api.KnownOpen] < 50 || counts[api.KnownYes] < 20 {
		t.Error(counts)
	}
}

// P7.12: a pledge by who surely holds the paper on all days that it can cover is good, by who on none of those is not.
func TestSureHolderPledges(t *testing.T) {
	counts := map[uint8]int{}
	eachTrue(t, 500, func(p api.Papers, _ hidden, _ *rand.Rand) bool {
		for _, x := range p.Pledges {
			all, none := true, true
			for day := x.From.Lo; day <= x.Until.Hi; day++ {
				k := known(p, x.Paper, x.By, day)
				all, none = all && k == api.KnownYes, none && k == api.KnownNo
			}
			k, e := paper.Good(p, x.Number)
			if e != api.OK || all != (k == api.KnownYes) || none && k != api.KnownNo {
				return false
			}
			if all || none {
				counts[k]++
			}
		}
		return true
	})
	if counts[api.KnownNo] < 50 || counts[api.KnownYes] < 50 {
		t.Error(counts)
	}
}

// P7.6, P7.13, N10: without the passes that are told there is a truth, with fewer left out, or others before them, there is none.
func TestFewestAreFalse(t *testing.T) {
	counts := map[api.Errno]int{}
	s := large()
	s.odd = 25
	eachPapers(t, 500, s, func(p api.Papers, _ hidden, _ *rand.Rand) bool {
		want, few := testhelp.Fewest(passes(p), api.MaxFalse, func(out []int) bool { return can(without(p, out)) })
		l, e := paper.Wrong(p)
		counts[e]++
		if !few {
			return len(l) == 0 && e == api.ErrMany
		}
		y, f := paper.Strike(p, l)
		return slices.Equal(l, want) && e == api.OK && f == api.OK && can(y)
	})
	if counts[api.OK] < 100 || counts[api.ErrMany] < 20 {
		t.Error(counts)
	}
}

// only is papers with all that is written of one of them, and nothing of the others.
func only(p api.Papers, id int) api.Papers {
	p.Papers = slices.DeleteFunc(slices.Clone(p.Papers), func(x api.Paper) bool { return x.Id != id })
	p.Passes = slices.DeleteFunc(slices.Clone(p.Passes), func(x api.Pass) bool { return x.Paper != id })
	p.Pledges = slices.DeleteFunc(slices.Clone(p.Pledges), func(x api.Pledge) bool { return x.Paper != id })
	return p
}

// P7.14: all that is told of a paper is told if nothing is written of any other one.
func TestOnePaperTellsNothingOfAnother(t *testing.T) {
	eachTrue(t, 200, func(p api.Papers, _ hidden, _ *rand.Rand) bool {
		for _, x := range p.Papers {
			y := only(p, x.Id)
			k, _ := paper.Twice(p, x.Id)
			m, _ := paper.Twice(y, x.Id)
			a, e := paper.Since(p, x.Id)
			b, f := paper.Since(y, x.Id)
			if !slices.EqualFunc(orders(p, x.Id), orders(y, x.Id), slices.Equal) || k != m || a != b || e != f {
				return false
			}
			for day := range p.Days {
				l, _ := paper.Bank(p, x.Id, day)
				m, _ := paper.Bank(y, x.Id, day)
				if !slices.Equal(holder(p, x.Id, day), holder(y, x.Id, day)) || !slices.Equal(l, m) {
					return false
				}
			}
			for _, n := range passes(y) {
				s, _ := paper.When(p, n)
				if u, e := paper.When(y, n); s != u || e != api.OK {
					return false
				}
			}
			for _, n := range pledges(y) {
				k, _ := paper.Good(p, n)
				if m, e := paper.Good(y, n); k != m || e != api.OK {
					return false
				}
			}
		}
		return true
	})
}

// P7.15: behind all passes a paper is where the last one of some order went: all orders end there.
func TestLastHolder(t *testing.T) {
	moved := 0
	eachTrue(t, 500, func(p api.Papers, _ hidden, _ *rand.Rand) bool {
		for _, x := range p.Papers {
			for _, order := range orders(p, x.Id) {
				at := x.Holder
				for _, n := range order {
					at = p.Passes[slices.Index(passes(p), n)].To
				}
				moved += is(at != x.Holder)
				if !slices.Equal(holder(p, x.Id, p.Days-1), ints(at)) || known(p, x.Id, at, p.Days-1) != api.KnownYes {
					return false
				}
			}
		}
		return true
	})
	if moved < 100 {
		t.Error(moved)
	}
}

// P7.7: a pass that is struck, and put again, is as before.
func TestStruckAndPut(t *testing.T) {
	eachTrue(t, 200, func(p api.Papers, _ hidden, _ *rand.Rand) bool {
		for _, x := range p.Passes {
			fewer, e := paper.Strike(p, ints(x.Number))
			again, f := paper.Put(fewer, x)
			if e != api.OK || f != api.OK || !same(again, p) || len(fewer.Passes) != len(p.Passes)-1 {
				return false
			}
		}
		return true
	})
}

// P1, R5, R7: each call ends with an answer, whatever its arguments are.
func TestAnyValue(t *testing.T) {
	odd := ints(math.MinInt, math.MinInt+1, -10000, -1, 0, 1, 2, 3, 5, 6, 9, 10, 9999, 10000, math.MaxInt-1, math.MaxInt)
	r := rand.New(rand.NewSource(8))
	some := func() int { return odd[r.Intn(len(odd))] }
	for range 3000 {
		p := example()
		switch r.Intn(4) {
		case 0:
			p = api.Papers{Days: some(), Papers: []api.Paper{sheet(some(), some(), some())}}
		case 1:
			p.Days = some()
		case 2:
			p.Passes[r.Intn(6)].When = span(some(), some())
		}
		for range r.Intn(3) {
			p.Passes = append(p.Passes, pass(some(), some(), some(), some(), some(), some()))
		}
		for range r.Intn(3) {
			p.Pledges = append(p.Pledges, pledge(some(), some(), some(), some(), span(some(), some()), span(some(), some())))
		}
		x := asks{some(), some(), some(), some(), some(), some(), pass(some(), some(), some(), some(), some(), some()), pledge(some(), some(), some(), some(), span(some(), some()), span(some(), some())), sheet(some(), some(), some()), slices.Repeat(ints(some(), some()), r.Intn(4))}
		for _, f := range calls() {
			if is, e := f.do(p, x); e != api.OK && !is {
				t.Fatal(f.name, p, x, e)
			}
		}
	}
}
