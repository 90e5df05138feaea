package deliver_test

import (
	"math"
	"math/rand"
	"slices"
	"testing"

	"middling/api"
	"middling/deliver"
	"middling/terms"
)

// bestOf returns the value of the best plan.
func bestOf(y api.Yard) worth {
	a, b, c, _ := deliver.Value(y)
	return worth{a, b, c}
}

// allowed are all plans that Judge allows, with their values.
func allowed(y api.Yard) ([][]int, []worth) {
	var plans [][]int
	var values []worth
	for _, plan := range read(y).lists {
		if a, b, c, e := deliver.Judge(y, plan); e == api.OK {
			plans, values = append(plans, plan), append(values, worth{a, b, c})
		}
	}
	return plans, values
}

// P5.8, N3: no allowed plan delivers more wares; with as many none has fewer at a risk; with as few none costs less.
func TestNoPlanIsBetter(t *testing.T) {
	eachYard(t, 80, 4, func(y api.Yard, _ *rand.Rand) bool {
		best := bestOf(y)
		_, values := allowed(y)
		for _, v := range values {
			if v.bales > best.bales || v.bales == best.bales && (v.risks < best.risks || v.risks == best.risks && v.pence < best.pence) {
				return false
			}
		}
		plan, e := deliver.Plan(y)
		a, b, c, f := deliver.Judge(y, plan)
		return e == api.OK && f == api.OK && worth{a, b, c} == best
	})
}

// P5.3: how much less a plan weighs is told; what is not allowed is not judged.
func TestWorseIsOfWeights(t *testing.T) {
	eachYard(t, 80, 4, func(y api.Yard, _ *rand.Rand) bool {
		best := bestOf(y)
		plans, values := allowed(y)
		for i, plan := range plans {
			n, e := deliver.Worse(y, plan)
			if n < 0 || n != best.weight()-values[i].weight() || e != api.OK {
				return false
			}
		}
		return len(plans) > 0
	})
}

// P5.9, N3: the prices prove the best plan.
func TestPricesProve(t *testing.T) {
	tight, loose := 0, 0
	eachYard(t, 500, 6, func(y api.Yard, _ *rand.Rand) bool {
		wares, deals, e := deliver.Prices(y)
		if e != api.OK || len(wares) != len(y.Wares) || len(deals) != len(y.Deals) {
			return false
		}
		sum := 0
		for i, n := range wares {
			sum += n
			if n < 0 {
				return false
			}
			for j, d := range y.Deals {
				k, _ := deliver.Can(y, y.Wares[i].Id, d.Id)
				cost, f := deliver.Cost(y, y.Wares[i].Id, d.Id)
				if f != api.OK {
					continue
				}
				adds := worth{1, int(api.KnownYes - k), cost}.weight()
				switch {
				case n+deals[j] < adds:
					return false
				case n+deals[j] == adds:
					tight++
				default:
					loose++
				}
			}
		}
		for j, n := range deals {
			sum += n * y.Deals[j].Terms.Bales
			if n < 0 {
				return false
			}
		}
		return sum == bestOf(y).weight()
	})
	if tight < 500 || loose < 500 {
		t.Error(tight, loose)
	}
}

// P5.10, N3: as many Bales are left open as the deals lack that are told; none if none do.
func TestWhatIsLackedIsOpen(t *testing.T) {
	counts := map[api.Errno]int{}
	eachYard(t, 500, 6, func(y api.Yard, _ *rand.Rand) bool {
		open := -bestOf(y).bales
		for _, d := range y.Deals {
			open += d.Terms.Bales
		}
		l, lack, e := deliver.Lacks(y)
		counts[e]++
		if e == api.ErrNone {
			return open == 0 && lack == 0 && len(l) == 0
		}
		// The deals that are told prove it by themselves: no other ware may go to one of them.
		proof := 0
		for _, d := range y.Deals {
			if slices.Contains(l, d.Id) {
				proof += d.Terms.Bales
			}
		}
		for _, x := range y.Wares {
			may := func(deal int) bool {
				k, _ := deliver.Can(y, x.Id, deal)
				return k != api.KnownNo
			}
			if slices.ContainsFunc(l, may) {
				proof--
			}
		}
		return e == api.OK && open > 0 && lack == open && proof == open
	})
	if counts[api.OK] < 100 || counts[api.ErrNone] < 50 {
		t.Error(counts)
	}
}

// P5.11: what is sure is so in each plan that is as good; what is not sure differs in some.
func TestSureIsSo(t *testing.T) {
	eachYard(t, 80, 4, func(y api.Yard, _ *rand.Rand) bool {
		s, e := deliver.Sure(y)
		if e != api.OK || len(s) != len(y.Wares) {
			return false
		}
		first, _ := deliver.Plan(y)
		differs := make([]bool, len(s))
		plans, _ := allowed(y)
		for _, plan := range plans {
			if n, _ := deliver.Worse(y, plan); n > 0 {
				continue
			}
			// Of plans that are as good the one that is told comes first.
			if slices.Compare(first, plan) > 0 {
				return false
			}
			for i, deal := range s {
				if deal >= 0 && plan[i] != deal {
					return false
				}
				differs[i] = differs[i] || plan[i] != first[i]
			}
		}
		for i, deal := range s {
			if differs[i] != (deal == -1) {
				return false
			}
		}
		return true
	})
}

// P5.12: a ware that can be spared leaves the weight as it is; each other one makes it less.
func TestSparedIsNotMissed(t *testing.T) {
	counts := map[bool]int{}
	eachYard(t, 200, 6, func(y api.Yard, _ *rand.Rand) bool {
		spare, e := deliver.Spare(y)
		if e != api.OK || !slices.IsSorted(spare) {
			return false
		}
		most := bestOf(y)
		for _, x := range y.Wares {
			a, b, c, _ := deliver.Without(y, x.Id)
			less, f := deliver.Take(y, x.Id)
			is := slices.Contains(spare, x.Id)
			counts[is]++
			if f != api.OK || bestOf(less) != (worth{a, b, c}) || is != (bestOf(less).weight() == most.weight()) || bestOf(less).weight() > most.weight() {
				return false
			}
		}
		return !slices.ContainsFunc(spare, func(id int) bool { return !slices.Contains(wareIds(y), id) })
	})
	if counts[true] < 100 || counts[false] < 100 {
		t.Error(counts)
	}
}

// P5.13: one ware more never makes a plan weigh less, nor one deal more; the same plan is still allowed.
func TestMoreNeverWeighsLess(t *testing.T) {
	counts := map[bool]int{}
	eachYard(t, 300, 6, func(y api.Yard, c *rand.Rand) bool {
		most := bestOf(y)
		if len(y.Wares) < api.MaxWares {
			more, e := deliver.Put(y, anyWare(c, 9000+c.Intn(100)))
			if e != api.OK || bestOf(more).weight() < most.weight() {
				return false
			}
			plan, _ := deliver.Plan(y)
			if a, b, c, e := deliver.Judge(more, append(plan, 0)); (worth{a, b, c}) != most || e != api.OK {
				return false
			}
			counts[bestOf(more) != most]++
		}
		if len(y.Deals) < api.MaxDeals {
			more, e := deliver.Sign(y, anyDeal(c, 9000+c.Intn(100)))
			if e != api.OK || bestOf(more).weight() < most.weight() {
				return false
			}
			counts[bestOf(more) != most]++
		}
		return true
	})
	if counts[true] < 50 || counts[false] < 50 {
		t.Error(counts)
	}
}

// P5.14: a ware may go to a deal as its terms say, whichever class it is of.
func TestWhicheverClass(t *testing.T) {
	eachYard(t, 300, 4, func(y api.Yard, _ *rand.Rand) bool {
		for i, x := range y.Wares {
			for _, d := range y.Deals {
				k, _ := deliver.Can(y, x.Id, d.Id)
				least, _ := deliver.Cost(y, x.Id, d.Id)
				so, not, comes := false, false, false
				for _, c := range classesOf(x) {
					is, _ := terms.Allows(d.Terms, c, y.Month)
					so, not = so || is, not || !is
					exact := copied(y)
					exact.Wares[i].Grades, exact.Wares[i].Staples = span(c.Grade, c.Grade), span(c.Staple, c.Staple)
					sure, _ := deliver.Can(exact, x.Id, d.Id)
					cost, e := deliver.Cost(exact, x.Id, d.Id)
					if is != (sure == api.KnownYes) || is == (sure == api.KnownNo) || is != (e == api.OK) || is && cost > least {
						return false
					}
					comes = comes || is && cost == least
				}
				if (k == api.KnownYes) != !not || (k == api.KnownNo) != !so || comes != so {
					return false
				}
			}
		}
		return true
	})
}

// P1, R5, R7: each call ends with an answer, whatever its arguments are.
func TestAnyValue(t *testing.T) {
	odd := ints(math.MinInt, math.MinInt+1, -1, 0, 1, 2, 4, 5, 9, 10, 20, 30, 60, 9999, 10000, 1000000, math.MaxInt-1, math.MaxInt)
	c := rand.New(rand.NewSource(6))
	some := func() int { return odd[c.Intn(len(odd))] }
	sign := func() api.Deal {
		d := deal(some(), 1000, 6, 4, 1)
		switch c.Intn(3) {
		case 0:
			d.Terms = api.Terms{Base: api.Class{Grade: some(), Staple: some()}, Price: some(), Worst: some(), Short: some(), Grades: slices.Repeat(ints(some()), c.Intn(12)), Staples: slices.Repeat(ints(some()), 9), Due: span(some(), some()), Bales: some(), Fee: some()}
		case 1:
			d.Terms.Due, d.Terms.Bales = span(some(), some()), some()
		}
		return d
	}
	put := func() api.Ware {
		x := ware(some(), some(), some(), some(), some())
		if c.Intn(2) == 0 {
			x = ware(some(), 4, 5, 5, some())
		}
		return x
	}
	for range 5000 {
		y := example(1, 1)
		for range c.Intn(3) {
			switch c.Intn(5) {
			case 0:
				y.Month = some()
			case 1:
				y.Wares = append(y.Wares, put())
			case 2:
				y.Deals = append(y.Deals, sign())
			case 3:
				y.Wares = slices.Repeat([]api.Ware{put()}, c.Intn(9))
			case 4:
				y.Deals = slices.Repeat([]api.Deal{sign()}, c.Intn(5))
			}
		}
		x := asks{some(), some(), slices.Repeat(ints(some()), c.Intn(8)), put(), sign()}
		for _, c := range calls() {
			if is, e := c.do(y, x); e != api.OK && !is {
				t.Fatal(c.name, y, x, e)
			}
		}
	}
}
