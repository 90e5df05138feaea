package deliver_test

import (
	"math/rand"
	"slices"
	"testing"

	"middling/api"
	"middling/deliver"
	"middling/terms"
	"middling/testhelp"
)

// classesOf are those of which a ware can be.
func classesOf(x api.Ware) []api.Class {
	var l []api.Class
	for grade := x.Grades.Lo; grade <= x.Grades.Hi; grade++ {
		for staple := x.Staples.Lo; staple <= x.Staples.Hi; staple++ {
			l = append(l, api.Class{Grade: grade, Staple: staple})
		}
	}
	return l
}

// pair is what is so of a ware that goes to a deal.
type pair struct {
	known uint8
	cost  int
}

// pairOf tells it by the chapter's words, class by class.
func pairOf(x api.Ware, d api.Deal, month int) pair {
	yes, no, least := 0, 0, 0
	for _, c := range classesOf(x) {
		if is, _ := terms.Allows(d.Terms, c, month); !is {
			no++
			continue
		}
		if n, _ := terms.Invoice(d.Terms, c); yes == 0 || n < least {
			least = n
		}
		yes++
	}
	switch {
	case yes == 0:
		return pair{known: api.KnownNo}
	case no == 0:
		return pair{api.KnownYes, x.Pence - least}
	}
	return pair{api.KnownOpen, x.Pence - least}
}

// worth is the value of a plan.
type worth struct{ bales, risks, pence int }

func (w worth) weight() int { return 1000000000*w.bales - 20000000*w.risks - w.pence }

// words are what the chapter's words tell of a yard: of each ware, of each deal, how many Bales each one has, and all lists of places.
type words struct {
	deals []int
	pairs [][]pair
	bales []int
	lists [][]int
}

func read(y api.Yard) words {
	w := words{deals: dealIds(y), lists: [][]int{nil}}
	for _, d := range y.Deals {
		w.bales = append(w.bales, d.Terms.Bales)
	}
	for _, x := range y.Wares {
		var l []pair
		for _, d := range y.Deals {
			l = append(l, pairOf(x, d, y.Month))
		}
		w.pairs = append(w.pairs, l)
		var longer [][]int
		for _, plan := range w.lists {
			for _, id := range places(y) {
				longer = append(longer, append(slices.Clone(plan), id))
			}
		}
		w.lists = longer
	}
	return w
}

// judge tells the value of a list of deals, if it is an allowed plan.
func (w words) judge(plan []int) (worth, bool) {
	var v worth
	if len(plan) != len(w.pairs) {
		return worth{}, false
	}
	left := slices.Clone(w.bales)
	for i, id := range plan {
		if id == 0 {
			continue
		}
		j := slices.Index(w.deals, id)
		if j < 0 || left[j] == 0 || w.pairs[i][j].known == api.KnownNo {
			return worth{}, false
		}
		left[j]--
		v.bales++
		v.pence += w.pairs[i][j].cost
		if w.pairs[i][j].known == api.KnownOpen {
			v.risks++
		}
	}
	return v, true
}

// best tells all plans that weigh most, in the order of lists, and their value.
func (w words) best() ([][]int, worth) {
	var l [][]int
	var most worth
	for _, plan := range w.lists {
		v, ok := w.judge(plan)
		if !ok || len(l) > 0 && v.weight() < most.weight() {
			continue
		}
		if len(l) == 0 || v.weight() > most.weight() {
			l, most = nil, v
		}
		l = append(l, plan)
	}
	return l, most
}

// without tells what is so if a ware were not there.
func (w words) without(i int) words {
	w.pairs = slices.Delete(slices.Clone(w.pairs), i, i+1)
	var shorter [][]int
	for _, plan := range w.lists {
		if plan[i] == 0 {
			shorter = append(shorter, slices.Delete(slices.Clone(plan), i, i+1))
		}
	}
	w.lists = shorter
	return w
}

// with tells what is so if a deal had one Bale more.
func (w words) with(j int) words {
	w.bales = slices.Clone(w.bales)
	w.bales[j]++
	return w
}

// sure tells where each ware goes in all plans that weigh most.
func sure(plans [][]int) []int {
	l := slices.Clone(plans[0])
	for _, plan := range plans {
		for i := range l {
			if plan[i] != l[i] {
				l[i] = -1
			}
		}
	}
	return l
}

// lacks tells which deals lack most, of all sets of them.
func (w words) lacks() ([]int, int) {
	var most []int
	lack := 0
	// Smaller sets come first, then those with lesser Ids.
	for _, set := range testhelp.Sets(len(w.deals)) {
		n := 0
		for _, j := range set {
			n += w.bales[j]
		}
		for _, l := range w.pairs {
			if slices.ContainsFunc(set, func(j int) bool { return l[j].known != api.KnownNo }) {
				n--
			}
		}
		if n > lack {
			most, lack = testhelp.Chosen(w.deals, set), n
		}
	}
	return most, lack
}

// P5.2, P5.14: each ware, with each deal.
func TestPairsByWords(t *testing.T) {
	counts := map[uint8]int{}
	eachYard(t, 300, 6, func(y api.Yard, _ *rand.Rand) bool {
		for i, l := range read(y).pairs {
			for j, want := range l {
				counts[want.known]++
				k, e := deliver.Can(y, y.Wares[i].Id, y.Deals[j].Id)
				n, f := deliver.Cost(y, y.Wares[i].Id, y.Deals[j].Id)
				if k != want.known || e != api.OK || n != want.cost || (f == api.ErrNone) != (k == api.KnownNo) || f != api.OK && f != api.ErrNone {
					return false
				}
			}
		}
		return true
	})
	if counts[api.KnownNo] < 200 || counts[api.KnownOpen] < 200 || counts[api.KnownYes] < 200 {
		t.Error(counts)
	}
}

// P5.3, P5.6: the best plan, its value, and what is sure.
func TestPlanByWords(t *testing.T) {
	ties, differ, risky, kept := 0, 0, 0, 0
	eachYard(t, 300, 6, func(y api.Yard, _ *rand.Rand) bool {
		plans, most := read(y).best()
		l, e := deliver.Plan(y)
		a, b, c, f := deliver.Value(y)
		s, g := deliver.Sure(y)
		if len(plans) > 1 {
			ties++
		}
		if slices.Contains(s, -1) {
			differ++
		}
		if b > 0 {
			risky++
		}
		if slices.Contains(s, 0) {
			kept++
		}
		return slices.Equal(l, plans[0]) && e == api.OK && worth{a, b, c} == most && f == api.OK && slices.Equal(s, sure(plans)) && g == api.OK
	})
	if ties < 50 || differ < 50 || risky < 50 || kept < 50 {
		t.Error(ties, differ, risky, kept)
	}
}

// P5.3: each list of deals.
func TestJudgeByWords(t *testing.T) {
	counts := map[api.Errno]int{}
	eachYard(t, 100, 4, func(y api.Yard, _ *rand.Rand) bool {
		w := read(y)
		_, most := w.best()
		for _, plan := range w.lists {
			want := api.OK
			v, ok := w.judge(plan)
			worse := most.weight() - v.weight()
			if !ok {
				want, worse = api.ErrPlan, 0
			}
			a, b, c, e := deliver.Judge(y, plan)
			n, f := deliver.Worse(y, plan)
			if (worth{a, b, c}) != v || e != want || n != worse || f != want {
				return false
			}
			counts[e]++
		}
		return true
	})
	if counts[api.OK] < 1000 || counts[api.ErrPlan] < 1000 {
		t.Error(counts)
	}
}

// P5.4, P5.6: all prices, what is left without each ware, and which wares can be spared.
func TestPricesByWords(t *testing.T) {
	spared, priced := 0, 0
	eachYard(t, 150, 6, func(y api.Yard, _ *rand.Rand) bool {
		w := read(y)
		_, most := w.best()
		var wares, deals, spare []int
		for i, x := range y.Wares {
			_, v := w.without(i).best()
			wares = append(wares, most.weight()-v.weight())
			if v.weight() == most.weight() {
				spare = append(spare, x.Id)
			}
			if a, b, c, e := deliver.Without(y, x.Id); (worth{a, b, c}) != v || e != api.OK {
				return false
			}
		}
		for j := range y.Deals {
			_, v := w.with(j).best()
			deals = append(deals, v.weight()-most.weight())
			if v != most {
				priced++
			}
		}
		spared += len(spare)
		l, k, e := deliver.Prices(y)
		s, f := deliver.Spare(y)
		return slices.Equal(l, wares) && slices.Equal(k, deals) && e == api.OK && slices.Equal(s, spare) && f == api.OK
	})
	if spared < 50 || priced < 50 {
		t.Error(spared, priced)
	}
}

// P5.5: the deals that lack the most, of all sets of them.
func TestLacksByWords(t *testing.T) {
	counts := map[int]int{}
	eachYard(t, 500, 6, func(y api.Yard, _ *rand.Rand) bool {
		deals, lack := read(y).lacks()
		counts[len(deals)]++
		l, n, e := deliver.Lacks(y)
		return slices.Equal(l, deals) && n == lack && (e == api.ErrNone) == (lack == 0) && (e == api.OK) == (lack > 0)
	})
	if counts[0] < 50 || counts[1] < 50 || counts[2] < 50 || counts[3] < 10 {
		t.Error(counts)
	}
}
