package mill_test

import (
	"math"
	"math/rand"
	"slices"
	"testing"

	"middling/api"
	"middling/mill"
)

// evenness returns the unevenness of the best plan: false if none is allowed.
func evenness(m api.Mill) (worth, bool) {
	a, b, e := mill.Even(m)
	return worth{a, b}, e == api.OK
}

// judged returns the unevenness of a plan: false if it is not allowed.
func judged(m api.Mill, plan []int) (worth, bool) {
	a, b, e := mill.Judge(m, plan)
	return worth{a, b}, e == api.OK
}

// exchanged are the plans that come of a plan if any bale of it is left, and any that is left is put in its place, by both bales.
func exchanged(m api.Mill, plan []int) map[[2]int][]int {
	l := map[[2]int][]int{}
	for i, out := range ids(m) {
		for j, in := range ids(m) {
			if plan[i] > 0 && plan[j] == 0 {
				next := slices.Clone(plan)
				next[i], next[j] = 0, plan[i]
				l[[2]int{out, in}] = next
			}
		}
	}
	return l
}

// P9.8, N7: no allowed plan is more even than the best one.
func TestNoPlanIsMoreEven(t *testing.T) {
	few := 0
	eachMill(t, 100, 7, func(m api.Mill, _ *rand.Rand) bool {
		best, e := mill.Best(m)
		u, ok := evenness(m)
		if !ok {
			few++
			return e == api.ErrFew && len(read(m).plans) == 0
		}
		if v, is := judged(m, best); e != api.OK || !is || u != v {
			return false
		}
		for _, plan := range read(m).plans {
			if v, is := judged(m, plan); !is || v.before(u) || v == u && slices.Compare(plan, best) < 0 {
				return false
			}
		}
		return true
	})
	if few < 20 || few > 80 {
		t.Error(few)
	}
}

// P9.9, N7: the bound is shown by how many lots there can be.
func TestBoundIsShown(t *testing.T) {
	tight, none := 0, 0
	eachMill(t, 1000, 7, func(m api.Mill, _ *rand.Rand) bool {
		u, ok := evenness(m)
		if !ok {
			n, e := mill.Most(m, api.MaxLength)
			return n < m.Lots && e == api.OK
		}
		n, e := mill.Most(m, u.length)
		less, f := mill.Most(m, u.length-1)
		if u.length == 0 {
			none++
			return n >= m.Lots && e == api.OK && less == 0 && f == api.ErrArg
		}
		tight++
		return n >= m.Lots && e == api.OK && less < m.Lots && f == api.OK
	})
	if tight < 200 || none < 50 {
		t.Error(tight, none)
	}
}

// P9.3: more that lengths may differ by never makes for fewer lots.
func TestMoreRoomMoreLots(t *testing.T) {
	eachMill(t, 200, 7, func(m api.Mill, _ *rand.Rand) bool {
		last := 0
		for length := range api.MaxLength + 1 {
			n, e := mill.Most(m, length)
			if n < last || e != api.OK {
				return false
			}
			last = n
		}
		fit, _ := mill.Fit(m)
		great, e := mill.Most(m, math.MaxInt)
		return last == len(fit)/m.Size && great == last && e == api.OK
	})
}

// P9.10, P9.12, N7: an exchange that is told makes a plan more even, none does more; none does of the best plan.
func TestExchangeIsTheBest(t *testing.T) {
	counts := map[api.Errno]int{}
	eachMill(t, 150, 7, func(m api.Mill, c *rand.Rand) bool {
		plans := read(m).plans
		if len(plans) == 0 {
			return true
		}
		best, _ := mill.Best(m)
		if _, _, e := mill.Swap(m, best); e != api.ErrNone {
			return false
		}
		for range 5 {
			plan := plans[c.Intn(len(plans))]
			u, _ := judged(m, plan)
			out, in, e := mill.Swap(m, plan)
			counts[e]++
			told, is := u, true
			if e == api.OK {
				told, is = judged(m, exchanged(m, plan)[[2]int{out, in}])
				if !is || !told.before(u) {
					return false
				}
			}
			for x, next := range exchanged(m, plan) {
				v, is := judged(m, next)
				if is && (v.before(told) || e == api.OK && v == told && slices.Compare(x[:], ints(out, in)) < 0) {
					return false
				}
			}
			if e != api.OK && (e != api.ErrNone || out != 0 || in != 0) {
				return false
			}
		}
		return true
	})
	if counts[api.OK] < 100 || counts[api.ErrNone] < 100 {
		t.Error(counts)
	}
}

// P9.11, N7: one bale more never makes the best plan less even, one less never more.
func TestMoreIsNeverLessEven(t *testing.T) {
	more, less := map[bool]int{}, map[bool]int{}
	eachMill(t, 800, 7, func(m api.Mill, c *rand.Rand) bool {
		u, ok := evenness(m)
		if len(m.Cottons) < api.MaxCottons {
			x := anyCotton(c, 9000)
			with, e := mill.Put(m, x)
			v, is := evenness(with)
			a, b, f := mill.Helps(m, x)
			if e != api.OK || ok && (!is || u.before(v)) || (worth{a, b}) != v || f != few(is) {
				return false
			}
			more[is && v != u]++
		}
		for _, id := range ids(m) {
			without, e := mill.Take(m, id)
			v, is := evenness(without)
			a, b, f := mill.Without(m, id)
			if e != api.OK || is && (!ok || v.before(u)) || (worth{a, b}) != v || f != few(is) {
				return false
			}
			less[is && v != u]++
		}
		return true
	})
	if more[true] < 20 || more[false] < 20 || less[true] < 100 || less[false] < 100 {
		t.Error(more, less)
	}
}

// P9.5, P9.11: bales that are needed are those without which it is less even, or none is allowed; one that is left is not.
func TestWhatIsLeftIsNotNeeded(t *testing.T) {
	counts := map[bool]int{}
	eachMill(t, 300, 7, func(m api.Mill, _ *rand.Rand) bool {
		needs, e := mill.Needs(m)
		u, ok := evenness(m)
		if !ok {
			return e == api.ErrFew
		}
		best, _ := mill.Best(m)
		for at, id := range ids(m) {
			a, b, f := mill.Without(m, id)
			is := slices.Contains(needs, id)
			if is != (f == api.ErrFew || u.before(worth{a, b})) || is && best[at] == 0 {
				return false
			}
			counts[is]++
		}
		return e == api.OK && slices.IsSorted(needs)
	})
	if counts[true] < 200 || counts[false] < 200 {
		t.Error(counts)
	}
}

// P9.12: only bales that surely are plain are taken.
func TestOnlyPlainOnes(t *testing.T) {
	unfit := 0
	eachMill(t, 300, 7, func(m api.Mill, _ *rand.Rand) bool {
		fit, _ := mill.Fit(m)
		best, e := mill.Best(m)
		if e != api.OK {
			return len(fit) < m.Lots*m.Size
		}
		for at, lot := range best {
			if is := isFit(m.Cottons[at].Bale); is != slices.Contains(fit, m.Cottons[at].Bale.Id) || lot > 0 && !is {
				return false
			}
		}
		unfit += len(m.Cottons) - len(fit)
		needs, _ := mill.Needs(m)
		return !slices.ContainsFunc(needs, func(id int) bool { return !slices.Contains(fit, id) })
	})
	if unfit < 50 {
		t.Error(unfit)
	}
}

// P9.13: lots that run as is told have no greater step than in any other order.
func TestNoOrderHasLess(t *testing.T) {
	counts := map[int]int{}
	eachMill(t, 150, 7, func(m api.Mill, c *rand.Rand) bool {
		plans := read(m).plans
		if len(plans) == 0 {
			return true
		}
		plan := plans[c.Intn(len(plans))]
		order, step, e := mill.Run(m, plan)
		lots := orders(m.Lots)
		if e != api.OK || !slices.ContainsFunc(lots, func(l []int) bool { return slices.Equal(l, order) }) || stepIn(m, plan, order) != step {
			return false
		}
		counts[len(order)]++
		for _, l := range lots {
			if n := stepIn(m, plan, l); n < step || n == step && slices.Compare(l, order) < 0 {
				return false
			}
		}
		return len(order) > 1 || step == 0
	})
	if counts[1] < 10 || counts[2] < 10 || counts[3] < 10 {
		t.Error(counts)
	}
}

// P9.14: the lots of a plan are all its bales, each one once.
func TestLotsAreAllBales(t *testing.T) {
	eachMill(t, 150, 7, func(m api.Mill, c *rand.Rand) bool {
		plans := read(m).plans
		if len(plans) == 0 {
			return true
		}
		plan := plans[c.Intn(len(plans))]
		lots, e := mill.Lots(m, plan)
		var all, want []int
		for _, l := range lots {
			if len(l) != m.Size || !slices.IsSorted(l) {
				return false
			}
			all = append(all, l...)
		}
		for at, lot := range plan {
			if lot > 0 {
				want = append(want, ids(m)[at])
				if !slices.Contains(lots[lot-1], ids(m)[at]) {
					return false
				}
			}
		}
		slices.Sort(all)
		return e == api.OK && len(lots) == m.Lots && slices.Equal(all, want)
	})
}

// P9.7: a bale that is put in, and taken out, leaves the mill as it was; so do other lots that are wanted, and these again.
func TestThereAndBack(t *testing.T) {
	eachMill(t, 200, 6, func(m api.Mill, c *rand.Rand) bool {
		x := anyCotton(c, 9000+c.Intn(9))
		put, e := mill.Put(m, x)
		back, f := mill.Take(put, x.Bale.Id)
		other, g := mill.Want(m, 1+c.Intn(3), 2+c.Intn(3))
		again, h := mill.Want(other, m.Lots, m.Size)
		return e == api.OK && f == api.OK && g == api.OK && h == api.OK && same(back, m) && same(again, m)
	})
}

// P1, R5, R7: each call ends with an answer, whatever its arguments are.
func TestAnyValue(t *testing.T) {
	odd := ints(math.MinInt, math.MinInt+1, -1, 0, 1, 2, 3, 4, 5, 9, 60, 61, 200, 201, 600, 9999, 10000, math.MaxInt-1, math.MaxInt)
	c := rand.New(rand.NewSource(10))
	some := func() int { return odd[c.Intn(len(odd))] }
	put := func() api.Cotton {
		x := anyCotton(c, 1+c.Intn(9))
		switch c.Intn(5) {
		case 0:
			x.Bale = api.Bale{Id: some(), Layers: some(), Dry: span(some(), some()), Draws: slices.Repeat([]api.Draw{{Number: some(), Layer: some(), Grade: span(some(), some())}}, c.Intn(12)), Weighs: slices.Repeat([]api.Weigh{{Number: some(), Pounds: some(), Damp: span(some(), some())}}, c.Intn(10))}
		case 1:
			x.Length, x.Strength = some(), some()
		case 2:
			x.Bale.Id = some()
		}
		return x
	}
	for range 5000 {
		m := example(1 + c.Intn(3))
		for range c.Intn(3) {
			switch c.Intn(4) {
			case 0:
				m.Lots, m.Size = some(), some()
			case 1:
				m.Cottons = append(m.Cottons, put())
			case 2:
				m.Cottons = slices.Repeat([]api.Cotton{put()}, c.Intn(9))
			case 3:
				if n := len(m.Cottons); n > 0 {
					m.Cottons[c.Intn(n)] = put()
				}
			}
		}
		x := asks{some(), slices.Repeat(ints(some()), c.Intn(8)), some(), put(), some(), some()}
		if c.Intn(2) == 0 {
			x.plan = ints(0, 1, 1, some(), 2, some())
		}
		for _, f := range calls() {
			if is, e := f.do(m, x); e != api.OK && !is {
				t.Fatal(f.name, m, x, e)
			}
		}
	}
}
