package mill_test

import (
	"math/rand"
	"slices"
	"testing"

	"middling/api"
	"middling/mill"
	"middling/testhelp"
)

// worth is the unevenness of a plan.
type worth struct{ length, strength int }

// before reports whether a is more even than b.
func (a worth) before(b worth) bool {
	return a.length < b.length || a.length == b.length && a.strength < b.strength
}

// words are what the chapter's words tell of a mill: which of its bales are fit, all allowed plans, in the order of lists, and how uneven each one is.
type words struct {
	api.Mill
	fit    []bool
	plans  [][]int
	worths []worth
}

// begin tells which bales are fit.
func begin(m api.Mill) words {
	w := words{Mill: m}
	for _, x := range m.Cottons {
		w.fit = append(w.fit, isFit(x.Bale))
	}
	return w
}

func read(m api.Mill) words {
	w := begin(m)
	for _, plan := range w.places() {
		if w.allows(plan) {
			w.plans, w.worths = append(w.plans, plan), append(w.worths, worthOf(m, plan))
		}
	}
	return w
}

// allows tells whether a plan is allowed.
func (w words) allows(plan []int) bool {
	if len(plan) != len(w.Cottons) {
		return false
	}
	for at, lot := range plan {
		if lot < 0 || lot > w.Lots || lot > 0 && !w.fit[at] {
			return false
		}
	}
	for lot := 1; lot <= w.Lots; lot++ {
		if len(lotOf(w.Mill, plan, lot)) != w.Size {
			return false
		}
	}
	return true
}

// places are all lists of places of bales, in their order: an unfit one is left in all of them.
func (w words) places() [][]int {
	l := [][]int{nil}
	for _, is := range w.fit {
		most := 0
		if is {
			most = w.Lots
		}
		var longer [][]int
		for _, plan := range l {
			for lot := range most + 1 {
				longer = append(longer, append(slices.Clone(plan), lot))
			}
		}
		l = longer
	}
	return l
}

// lotOf returns the bales of a lot.
func lotOf(m api.Mill, plan []int, lot int) []api.Cotton {
	var l []api.Cotton
	for at, n := range plan {
		if n == lot {
			l = append(l, m.Cottons[at])
		}
	}
	return l
}

func differ(a, b int) int { return max(a-b, b-a) }

// worthOf tells how uneven a plan is, pair by pair.
func worthOf(m api.Mill, plan []int) worth {
	var w worth
	for lot := 1; lot <= m.Lots; lot++ {
		l := lotOf(m, plan, lot)
		for _, x := range l {
			for _, y := range l {
				w.length, w.strength = max(w.length, differ(x.Length, y.Length)), max(w.strength, differ(x.Strength, y.Strength))
			}
		}
	}
	return w
}

// best tells the first one of the plans that are the most even: false if there is none.
func (w words) best() ([]int, worth, bool) {
	best := -1
	for i := range w.plans {
		if best < 0 || w.worths[i].before(w.worths[best]) {
			best = i
		}
	}
	if best < 0 {
		return nil, worth{}, false
	}
	return w.plans[best], w.worths[best], true
}

// without tells what is so of the plans that leave a bale.
func (w words) without(at int) words {
	left := begin(w.Mill)
	for i, plan := range w.plans {
		if plan[at] == 0 {
			left.plans, left.worths = append(left.plans, plan), append(left.worths, w.worths[i])
		}
	}
	return left
}

// needs tells which bales are in all of the plans that are the most even.
func (w words) needs() []int {
	var l []int
	_, most, _ := w.best()
	for at, id := range ids(w.Mill) {
		if _, left, ok := w.without(at).best(); !ok || left != most {
			l = append(l, id)
		}
	}
	return l
}

// most tells how many lots there can be, of all sets of bales that could be one.
func (w words) most(length int) int {
	far := func(i, j int) bool { return differ(w.Cottons[i].Length, w.Cottons[j].Length) > length }
	var sets [][]int
	for _, set := range testhelp.Sets(len(w.Cottons)) {
		if len(set) == w.Size && !slices.ContainsFunc(set, func(i int) bool {
			return !w.fit[i] || slices.ContainsFunc(set, func(j int) bool { return far(i, j) })
		}) {
			sets = append(sets, set)
		}
	}
	var lots func(taken []int) int
	lots = func(taken []int) int {
		n := 0
		for _, set := range sets {
			if !slices.ContainsFunc(set, func(at int) bool { return slices.Contains(taken, at) }) {
				n = max(n, 1+lots(append(slices.Clone(taken), set...)))
			}
		}
		return n
	}
	return lots(nil)
}

// swap tells the exchange by which a plan becomes the most even: false if by none it becomes more even.
func (w words) swap(plan []int) (out, in int, ok bool) {
	most := worthOf(w.Mill, plan)
	for i, id := range ids(w.Mill) {
		for j, other := range ids(w.Mill) {
			next := slices.Clone(plan)
			next[i], next[j] = plan[j], plan[i]
			if plan[i] > 0 && plan[j] == 0 && w.allows(next) && worthOf(w.Mill, next).before(most) {
				out, in, ok, most = id, other, true, worthOf(w.Mill, next)
			}
		}
	}
	return out, in, ok
}

// orders are all orders of some lots, in the order of lists.
func orders(lots int) [][]int {
	return map[int][][]int{1: {{1}}, 2: {{1, 2}, {2, 1}}, 3: {{1, 2, 3}, {1, 3, 2}, {2, 1, 3}, {2, 3, 1}, {3, 1, 2}, {3, 2, 1}}}[lots]
}

// stepIn tells the greatest step if the lots of a plan run in an order.
func stepIn(m api.Mill, plan, order []int) int {
	step, last := 0, 0
	for i, lot := range order {
		sum := 0
		for _, x := range lotOf(m, plan, lot) {
			sum += x.Length
		}
		if i > 0 {
			step = max(step, differ(last, sum))
		}
		last = sum
	}
	return step
}

// run tells the order in which lots run best, and its greatest step.
func run(m api.Mill, plan []int) ([]int, int) {
	var first []int
	least := 0
	for _, order := range orders(m.Lots) {
		if n := stepIn(m, plan, order); first == nil || n < least {
			first, least = order, n
		}
	}
	return first, least
}

// few is OK, or ErrFew if there is no plan.
func few(ok bool) api.Errno {
	if ok {
		return api.OK
	}
	return api.ErrFew
}

// P9.2, P9.12: which bales are fit.
func TestFitByWords(t *testing.T) {
	counts := map[int]int{}
	eachMill(t, 500, 7, func(m api.Mill, _ *rand.Rand) bool {
		var want []int
		for _, x := range m.Cottons {
			if isFit(x.Bale) {
				want = append(want, x.Bale.Id)
			}
		}
		counts[len(m.Cottons)-len(want)]++
		l, e := mill.Fit(m)
		return slices.Equal(l, want) && e == api.OK
	})
	if counts[0] < 50 || counts[1] < 50 || counts[2] < 50 || counts[3] < 10 {
		t.Error(counts)
	}
}

// P9.1, P9.2, P9.5: the best plan, its unevenness, and the bales that are needed.
func TestBestByWords(t *testing.T) {
	counts, ties, free := map[api.Errno]int{}, 0, 0
	eachMill(t, 600, 7, func(m api.Mill, _ *rand.Rand) bool {
		w := read(m)
		plan, most, ok := w.best()
		var needs []int
		if ok {
			needs = w.needs()
		}
		e := few(ok)
		counts[e]++
		if i := slices.Index(w.worths, most); ok && slices.Contains(w.worths[i+1:], most) {
			ties++
		}
		if ok && len(needs) < m.Lots*m.Size {
			free++
		}
		l, f := mill.Best(m)
		a, b, g := mill.Even(m)
		k, h := mill.Needs(m)
		return slices.Equal(l, plan) && f == e && worth{a, b} == most && g == e && slices.Equal(k, needs) && h == e
	})
	if counts[api.OK] < 100 || counts[api.ErrFew] < 50 || ties < 50 || free < 50 {
		t.Error(counts, ties, free)
	}
}

// P9.2, P9.4, P9.6: each plan, and how its lots run.
func TestPlansByWords(t *testing.T) {
	swaps, runs := map[api.Errno]int{}, map[string]int{}
	eachMill(t, 150, 7, func(m api.Mill, _ *rand.Rand) bool {
		w := read(m)
		for _, plan := range w.plans {
			var want [][]int
			for lot := range m.Lots {
				want = append(want, ids(api.Mill{Cottons: lotOf(m, plan, lot+1)}))
			}
			a, b, e := mill.Judge(m, plan)
			l, f := mill.Lots(m, plan)
			if (worth{a, b}) != worthOf(m, plan) || e != api.OK || !slices.EqualFunc(l, want, slices.Equal) || f != api.OK {
				return false
			}
			order, step := run(m, plan)
			runs[string(rune('0'+len(order)))+string(rune('0'+order[0]))]++
			if l, n, e := mill.Run(m, plan); !slices.Equal(l, order) || n != step || e != api.OK {
				return false
			}
			out, in, ok := w.swap(plan)
			e = api.OK
			if !ok {
				e = api.ErrNone
			}
			swaps[e]++
			if c, d, f := mill.Swap(m, plan); c != out || d != in || f != e {
				return false
			}
		}
		return true
	})
	if swaps[api.OK] < 200 || swaps[api.ErrNone] < 200 || runs["11"] < 50 || runs["21"] < 50 || runs["31"] < 50 || runs["32"] < 20 {
		t.Error(swaps, runs)
	}
}

// P9.1: plans that are not allowed, of all lists of places.
func TestSplitsByWords(t *testing.T) {
	counts := map[api.Errno]int{}
	eachMill(t, 60, 5, func(m api.Mill, c *rand.Rand) bool {
		w := begin(m)
		l := [][]int{nil}
		for at := 0; at < len(l); at++ {
			for lot := -1; len(l[at]) <= len(m.Cottons) && lot <= m.Lots+1; lot++ {
				l = append(l, append(slices.Clone(l[at]), lot))
			}
		}
		for _, plan := range l {
			want := api.OK
			if !w.allows(plan) {
				want = api.ErrSplit
			}
			// Of those that are not allowed a part will do.
			if want == api.ErrSplit && c.Intn(30) > 0 {
				continue
			}
			counts[want]++
			_, _, e := mill.Judge(m, plan)
			_, f := mill.Lots(m, plan)
			_, _, g := mill.Run(m, plan)
			if _, _, h := mill.Swap(m, plan); e != want || f != want || g != want || h != want && (want != api.OK || h != api.ErrNone) {
				return false
			}
		}
		return true
	})
	if counts[api.OK] < 100 || counts[api.ErrSplit] < 1000 {
		t.Error(counts)
	}
}

// P9.3: how many lots there can be, of all sets of bales.
func TestMostByWords(t *testing.T) {
	counts := map[int]int{}
	eachMill(t, 400, 7, func(m api.Mill, _ *rand.Rand) bool {
		w := begin(m)
		for _, length := range ints(0, 1, 2, 3, 4, 5, 8, 10, 25, 26, 27, 58, 59) {
			want := w.most(length)
			counts[want]++
			if n, e := mill.Most(m, length); n != want || e != api.OK {
				return false
			}
		}
		return true
	})
	if counts[0] < 100 || counts[1] < 100 || counts[2] < 100 || counts[3] < 100 {
		t.Error(counts)
	}
}

// P9.5: what one bale more helps, and what is so without one.
func TestHelpsByWords(t *testing.T) {
	more, less := map[api.Errno]int{}, map[api.Errno]int{}
	helps, hurts := 0, 0
	eachMill(t, 150, 6, func(m api.Mill, c *rand.Rand) bool {
		w := read(m)
		_, most, _ := w.best()
		x := anyCotton(c, 500+c.Intn(9))
		if slices.Max(append(ids(m), 0)) > 1 && !slices.Contains(ids(m), 1) {
			x.Bale.Id = 1
		}
		with := copied(m)
		with.Cottons = append(with.Cottons, x)
		slices.SortFunc(with.Cottons, func(a, b api.Cotton) int { return a.Bale.Id - b.Bale.Id })
		_, want, ok := read(with).best()
		more[few(ok)]++
		if ok && want != most {
			helps++
		}
		if a, b, e := mill.Helps(m, x); (worth{a, b}) != want || e != few(ok) {
			return false
		}
		for at, id := range ids(m) {
			_, want, ok := w.without(at).best()
			less[few(ok)]++
			if ok && want != most {
				hurts++
			}
			if a, b, e := mill.Without(m, id); (worth{a, b}) != want || e != few(ok) {
				return false
			}
		}
		return true
	})
	if more[api.OK] < 50 || more[api.ErrFew] < 20 || less[api.OK] < 100 || less[api.ErrFew] < 100 || helps < 20 || hurts < 50 {
		t.Error(more, less, helps, hurts)
	}
}
