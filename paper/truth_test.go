package paper_test

import (
	"math/rand"
	"slices"
	"testing"

	"middling/api"
	"middling/paper"
	"middling/testhelp"
)

// way is one of a paper in a truth: its passes in order, each with its day.
type way []made

func (w way) numbers() []int {
	var l []int
	for _, x := range w {
		l = append(l, x.Number)
	}
	return l
}

// permuted calls what it is given with each order of some passes.
func permuted(l []api.Pass, each func([]api.Pass)) {
	if len(l) == 0 {
		each(nil)
	}
	for i, x := range l {
		permuted(slices.Delete(slices.Clone(l), i, i+1), func(rest []api.Pass) {
			each(append([]api.Pass{x}, rest...))
		})
	}
}

// dayLists returns all lists of so many days.
func dayLists(days, n int) [][]int {
	if n == 0 {
		return [][]int{nil}
	}
	var l [][]int
	for _, rest := range dayLists(days, n-1) {
		for day := range days {
			l = append(l, append(slices.Clone(rest), day))
		}
	}
	return l
}

// goesOn tells whether each pass goes from the house to which the one before it went, the first one from the Holder.
func goesOn(x api.Paper, l []api.Pass) bool {
	for i, y := range l {
		if i == 0 && y.From != x.Holder || i > 0 && y.From != l[i-1].To {
			return false
		}
	}
	return true
}

// fit tells whether days do not fall, each one within the When of its pass.
func fit(l []api.Pass, days []int) bool {
	for i, y := range l {
		if days[i] < y.When.Lo || days[i] > y.When.Hi || i > 0 && days[i] < days[i-1] {
			return false
		}
	}
	return true
}

// waysOf returns all of a paper, of all orders with all days.
func waysOf(p api.Papers, x api.Paper) []way {
	var of []api.Pass
	for _, y := range p.Passes {
		if y.Paper == x.Id {
			of = append(of, y)
		}
	}
	lists := dayLists(p.Days, len(of))
	var l []way
	permuted(of, func(order []api.Pass) {
		if !goesOn(x, order) {
			return
		}
		for _, days := range lists {
			if fit(order, days) {
				var w way
				for i, y := range order {
					w = append(w, made{y, days[i]})
				}
				l = append(l, w)
			}
		}
	})
	return l
}

// termsOf returns all terms of a pledge.
func termsOf(p api.Papers, x api.Pledge) []api.Span {
	var l []api.Span
	for first := range p.Days {
		for last := range p.Days {
			if has(x.From, first) && has(x.Until, last) && last >= first {
				l = append(l, span(first, last))
			}
		}
	}
	return l
}

// words are what the chapter's words tell of papers: the ways of each one, and the terms of each pledge.
type words struct {
	api.Papers
	ways  map[int][]way
	terms map[int][]api.Span
}

func read(p api.Papers) words {
	w := words{p, map[int][]way{}, map[int][]api.Span{}}
	for _, x := range p.Papers {
		w.ways[x.Id] = waysOf(p, x)
	}
	for _, x := range p.Pledges {
		w.terms[x.Number] = termsOf(p, x)
	}
	return w
}

func (w words) can() bool {
	return !slices.ContainsFunc(w.Papers.Papers, func(x api.Paper) bool { return len(w.ways[x.Id]) == 0 })
}

// each returns what is told of each way of a paper, each number once.
func (w words) each(x api.Paper, tell func(l way, holders []int) int) []int {
	var v []int
	for _, l := range w.ways[x.Id] {
		v = append(v, tell(l, holdersIn(w.Days, x, l)))
	}
	return testhelp.Sorted(v)
}

// tried runs a test for papers by chance that are small, or of which many passes are wrong.
func tried(t *testing.T, n int, test func(w words) bool) {
	for _, s := range []size{small(), untrue()} {
		eachPapers(t, n, s, func(p api.Papers, _ hidden, _ *rand.Rand) bool { return test(read(p)) })
	}
}

// triedTrue is the same for those that have a truth.
func triedTrue(t *testing.T, n int, test func(w words) bool) {
	tried(t, n, func(w words) bool { return !w.can() || test(w) })
}

// P7.1, P7.2: there is a truth if one can be found; ErrBad says that there is none.
func TestCanByWords(t *testing.T) {
	counts := map[bool]int{}
	tried(t, 2000, func(w words) bool {
		some := w.can()
		counts[some]++
		is, e := paper.Can(w.Papers)
		_, f := paper.Holds(w.Papers, 1, 0)
		return is == some && e == api.OK && (f == api.ErrBad) == !some
	})
	if counts[true] < 200 || counts[false] < 200 {
		t.Error(counts)
	}
}

// P7.2, P7.8, P7.9: the orders are those of all ways.
func TestOrdersByWords(t *testing.T) {
	counts := map[int]int{}
	triedTrue(t, 2000, func(w words) bool {
		ok := true
		for _, x := range w.Papers.Papers {
			var want [][]int
			for _, l := range w.ways[x.Id] {
				want = append(want, l.numbers())
			}
			slices.SortFunc(want, slices.Compare)
			want = slices.CompactFunc(want, slices.Equal)
			l, e := paper.Orders(w.Papers, x.Id)
			counts[len(l)]++
			ok = ok && slices.EqualFunc(l, want, slices.Equal) && e == api.OK
		}
		return ok
	})
	if counts[0] > 0 || counts[1] < 300 || counts[2] < 20 || counts[4] < 3 {
		t.Error(counts)
	}
}

// P7.3, P7.8, P7.10: who holds a paper, and what is known of each house, of all ways.
func TestHolderByWords(t *testing.T) {
	counts := map[uint8]int{}
	triedTrue(t, 1000, func(w words) bool {
		ok := true
		for _, x := range w.Papers.Papers {
			for day := range w.Days {
				want := w.each(x, func(_ way, holders []int) int { return holders[day] })
				l, e := paper.Holder(w.Papers, x.Id, day)
				ok = ok && slices.Equal(l, want) && e == api.OK
				for _, house := range houses() {
					n := 0
					for _, l := range w.ways[x.Id] {
						if holdersIn(w.Days, x, l)[day] == house {
							n++
						}
					}
					k, e := paper.Known(w.Papers, x.Id, house, day)
					counts[k]++
					ok = ok && k == testhelp.KnownBy(n, len(w.ways[x.Id])) && e == api.OK
				}
			}
		}
		return ok
	})
	if counts[api.KnownNo] < 300 || counts[api.KnownOpen] < 300 || counts[api.KnownYes] < 300 {
		t.Error(counts)
	}
}

// P7.3, P7.8: the days of passes are just what comes about.
func TestWhenByWords(t *testing.T) {
	tighter := 0
	triedTrue(t, 2000, func(w words) bool {
		ok := true
		for _, x := range w.Passes {
			var v []int
			for _, l := range w.ways[x.Paper] {
				v = append(v, l[slices.Index(l.numbers(), x.Number)].day)
			}
			slices.Sort(v)
			s, e := paper.When(w.Papers, x.Number)
			if s != x.When {
				tighter++
			}
			ok = ok && s == span(v[0], v[len(v)-1]) && e == api.OK
		}
		return ok
	})
	if tighter < 100 {
		t.Error(tighter)
	}
}

// P7.3, P7.8, P7.10: how many papers a house holds, of all ways of one with all of each other one.
func TestHoldsByWords(t *testing.T) {
	counts := map[api.Span]int{}
	triedTrue(t, 1000, func(w words) bool {
		ok := true
		for day := range w.Days {
			for _, house := range houses() {
				sums := ints(0)
				for _, x := range w.Papers.Papers {
					var next []int
					for _, has := range w.each(x, func(_ way, holders []int) int { return is(holders[day] == house) }) {
						for _, n := range sums {
							next = append(next, n+has)
						}
					}
					sums = testhelp.Sorted(next)
				}
				s, e := paper.Holds(w.Papers, house, day)
				counts[s]++
				ok = ok && testhelp.Fills(s, sums) && e == api.OK
			}
		}
		return ok
	})
	for _, s := range []api.Span{span(0, 0), span(0, 1), span(0, 2), span(1, 1), span(1, 2), span(2, 2)} {
		if counts[s] < 3 {
			t.Error(s, counts)
		}
	}
}

// is counts what is so as 1.
func is(so bool) int {
	if so {
		return 1
	}
	return 0
}

// P7.4, P7.8, P7.12: which pledges are good, of all ways with all terms.
func TestGoodByWords(t *testing.T) {
	counts := map[uint8]int{}
	triedTrue(t, 2000, func(w words) bool {
		ok := true
		for _, x := range w.Pledges {
			so, all := 0, 0
			y := w.Papers.Papers[slices.Index(sheets(w.Papers), x.Paper)]
			for _, l := range w.ways[x.Paper] {
				holders := holdersIn(w.Days, y, l)
				for _, s := range w.terms[x.Number] {
					all++
					if !slices.ContainsFunc(holders[s.Lo:s.Hi+1], func(house int) bool { return house != x.By }) {
						so++
					}
				}
			}
			k, e := paper.Good(w.Papers, x.Number)
			counts[k]++
			ok = ok && k == testhelp.KnownBy(so, all) && e == api.OK
		}
		return ok
	})
	if counts[api.KnownNo] < 100 || counts[api.KnownOpen] < 100 || counts[api.KnownYes] < 100 {
		t.Error(counts)
	}
}

// together calls what it is given with the terms of all pledges of a paper in each truth.
func (w words) together(id int, each func([]api.Span)) {
	truths := [][]api.Span{nil}
	for _, x := range w.Pledges {
		if x.Paper != id {
			continue
		}
		var next [][]api.Span
		for _, l := range truths {
			for _, s := range w.terms[x.Number] {
				next = append(next, append(slices.Clone(l), s))
			}
		}
		truths = next
	}
	for _, l := range truths {
		each(l)
	}
}

// firstTwice tells the first day that two terms cover: -1 if there is none.
func firstTwice(days int, terms []api.Span) int {
	for day := range days {
		n := 0
		for _, s := range terms {
			n += is(has(s, day))
		}
		if n > 1 {
			return day
		}
	}
	return -1
}

// P7.4, P7.8, P7.11: what is pledged twice, and since when, of all terms.
func TestTwiceByWords(t *testing.T) {
	counts := map[uint8]int{}
	tight := size{4, 2, 1, 6, 3, 2, 0}
	test := func(w words) bool {
		ok := true
		for _, x := range w.Papers.Papers {
			so, all, since := 0, 0, w.Days
			w.together(x.Id, func(terms []api.Span) {
				all++
				if day := firstTwice(w.Days, terms); day >= 0 {
					so++
					since = min(since, day)
				}
			})
			k, e := paper.Twice(w.Papers, x.Id)
			counts[k]++
			ok = ok && k == testhelp.KnownBy(so, all) && e == api.OK
			day, f := paper.Since(w.Papers, x.Id)
			if so == 0 {
				ok = ok && day == 0 && f == api.ErrNone
			} else {
				ok = ok && day == since && f == api.OK
			}
		}
		return ok
	}
	triedTrue(t, 1000, test)
	eachPapers(t, 500, tight, func(p api.Papers, _ hidden, _ *rand.Rand) bool { return test(read(p)) })
	if counts[api.KnownNo] < 100 || counts[api.KnownOpen] < 100 || counts[api.KnownYes] < 100 {
		t.Error(counts)
	}
}

// P7.4, P7.8: the banks whose pledges cover a day in some truth.
func TestBankByWords(t *testing.T) {
	counts := map[int]int{}
	triedTrue(t, 2000, func(w words) bool {
		ok := true
		for _, x := range w.Papers.Papers {
			for day := range w.Days {
				var want []int
				for _, y := range w.Pledges {
					if y.Paper == x.Id && slices.ContainsFunc(w.terms[y.Number], func(s api.Span) bool { return has(s, day) }) {
						want = append(want, y.Bank)
					}
				}
				l, e := paper.Bank(w.Papers, x.Id, day)
				counts[len(l)]++
				ok = ok && slices.Equal(l, testhelp.Sorted(want)) && e == api.OK
			}
		}
		return ok
	})
	if counts[0] < 100 || counts[1] < 100 || counts[2] < 30 || counts[3] < 3 {
		t.Error(counts)
	}
}

// P7.5, P7.8: whose claim is before whose, of all terms of both.
func TestRankByWords(t *testing.T) {
	counts := map[uint8]int{}
	triedTrue(t, 2000, func(w words) bool {
		ok := true
		for _, x := range w.Pledges {
			for _, y := range w.Pledges {
				so, all := 0, 0
				for _, a := range w.terms[x.Number] {
					for _, b := range w.terms[y.Number] {
						all++
						so += is(a.Lo < b.Lo)
					}
				}
				k, e := paper.Rank(w.Papers, x.Number, y.Number)
				if x.Paper != y.Paper || x.Number == y.Number {
					ok = ok && k == 0 && e == api.ErrArg
					continue
				}
				counts[k]++
				ok = ok && k == testhelp.KnownBy(so, all) && e == api.OK
			}
		}
		return ok
	})
	if counts[api.KnownNo] < 100 || counts[api.KnownOpen] < 100 || counts[api.KnownYes] < 30 {
		t.Error(counts)
	}
}

// P7.6, P7.13, N10: the fewest passes without which there is a truth.
func TestWrongByWords(t *testing.T) {
	counts := map[int]int{}
	tried(t, 1000, func(w words) bool {
		want, few := testhelp.Fewest(passes(w.Papers), api.MaxFalse, func(out []int) bool { return read(without(w.Papers, out)).can() })
		l, e := paper.Wrong(w.Papers)
		if !few {
			counts[-1]++
			return len(l) == 0 && e == api.ErrMany
		}
		counts[len(l)]++
		return slices.Equal(l, want) && e == api.OK
	})
	if counts[-1] < 10 || counts[0] < 100 || counts[1] < 50 || counts[2] < 30 || counts[3] < 10 {
		t.Error(counts)
	}
}
