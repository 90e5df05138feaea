package river_test

import (
	"math/rand"
	"slices"
	"testing"

	"middling/api"
	"middling/river"
	"middling/testhelp"
)

// truths are all truths of a flood: in which minute the river reaches each level, in order.
func truths(f api.Flood) [][]int {
	l := [][]int{nil}
	for at, s := range f.Levels {
		var longer [][]int
		for _, x := range l {
			for minute := s.Lo; minute <= s.Hi; minute++ {
				if at == 0 || minute >= x[at-1]+f.Gap {
					longer = append(longer, append(slices.Clone(x), minute))
				}
			}
		}
		l = longer
	}
	return slices.DeleteFunc(l, func(x []int) bool { return !isTruth(f, x) })
}

// words are what the chapter's words tell of a flood: the level of each bale, all loads as minute goes by after minute, as many as there are bales, all truths, and the minutes at worst and at best.
type words struct {
	api.Flood
	piles       []api.Stack
	levels      map[int]int
	loads       []api.Load
	truths      [][]int
	worst, best []int
}

// begin tells all but what is so of truths.
func begin(f api.Flood) words {
	w := words{Flood: f, piles: piles(f), levels: map[int]int{}}
	for _, x := range w.piles {
		for i, bale := range x.Bales {
			w.levels[bale] = x.Row + i
		}
	}
	// The last load of all is away when a gang that comes in 600 has taken 15 bales.
	for minute := range 600 + 15*60 + 1 {
		for _, g := range f.Gangs {
			if minute > g.Comes && (minute-g.Comes)%g.Takes == 0 && len(w.loads) < len(w.levels) {
				w.loads = append(w.loads, api.Load{Gang: g.Id, Minute: minute})
			}
		}
	}
	return w
}

func read(f api.Flood) words {
	w := begin(f)
	w.truths = truths(f)
	for at := range f.Levels {
		var l []int
		for _, x := range w.truths {
			l = append(l, x[at])
		}
		if len(l) > 0 {
			w.worst, w.best = append(w.worst, slices.Min(l)), append(w.best, slices.Max(l))
		}
	}
	return w
}

// tops are the bales that are on top behind an order.
func (w words) tops(order []int) []int {
	var l []int
	for _, x := range w.piles {
		left := slices.DeleteFunc(slices.Clone(x.Bales), func(bale int) bool { return slices.Contains(order, bale) })
		if len(left) > 0 {
			l = append(l, left[len(left)-1])
		}
	}
	return l
}

// orders are all of them, the shorter ones first.
func (w words) orders() [][]int {
	l := [][]int{nil}
	for at := 0; at < len(l); at++ {
		for _, bale := range w.tops(l[at]) {
			l = append(l, append(slices.Clone(l[at]), bale))
		}
	}
	return l
}

// saves tells whether the bale at an index of an order is saved, if the river reaches levels in some minutes.
func (w words) saves(order []int, at int, minutes []int) bool {
	return at < len(w.loads) && w.loads[at].Minute < minutes[w.levels[order[at]]-1]
}

// saved are the bales that an order saves, if the river reaches levels in some minutes.
func (w words) saved(order, minutes []int) []int {
	var l []int
	for at, bale := range order {
		if w.saves(order, at, minutes) {
			l = append(l, bale)
		}
	}
	return l
}

// lost is how many pence are lost by an order, if the river reaches levels in some minutes.
func (w words) lost(order, minutes []int) int {
	return penceOf(w.Flood, bales(w.Flood)...) - penceOf(w.Flood, w.saved(order, minutes)...)
}

// least tells the order by which the least is lost at worst, and what is lost, of all orders.
func (w words) least() ([]int, int) {
	var first []int
	least := penceOf(w.Flood, bales(w.Flood)...)
	for _, order := range w.orders() {
		n := w.lost(order, w.worst)
		if len(w.saved(order, w.worst)) == len(order) && (n < least || n == least && slices.Compare(order, first) < 0) {
			first, least = order, n
		}
	}
	return first, least
}

// rests tells how many pence more can be saved at worst, at most, behind what has gone of each stack, of all orders.
func (w words) rests() map[[5]int]int {
	rests := map[[5]int]int{}
	for _, order := range w.orders() {
		saved := w.saved(order, w.worst)
		var gone [5]int
		rests[gone] = max(rests[gone], penceOf(w.Flood, saved...))
		for _, bale := range order {
			for at, x := range w.piles {
				if slices.Contains(x.Bales, bale) {
					gone[at]++
				}
			}
			saved = slices.DeleteFunc(saved, func(x int) bool { return x == bale })
			rests[gone] = max(rests[gone], penceOf(w.Flood, saved...))
		}
	}
	return rests
}

// readSmall runs a test for what the words tell of small floods by chance that have truths.
func readSmall(t *testing.T, n int, test func(w words, c *rand.Rand) bool) {
	none := 0
	eachFlood(t, n, small(), func(f api.Flood, c *rand.Rand) bool {
		w := read(f)
		if len(w.truths) == 0 {
			none++
			return true
		}
		return test(w, c)
	})
	if none > n/3 {
		t.Error(none)
	}
}

// P10.2, P10.8: when each level is reached, in all truths.
func TestReachesByWords(t *testing.T) {
	none, differ, told := 0, 0, 0
	for _, s := range []size{small(), untrue()} {
		eachFlood(t, 150, s, func(f api.Flood, _ *rand.Rand) bool {
			w := read(f)
			is, e := river.True(f)
			if is != (len(w.truths) > 0) || e != api.OK {
				return false
			}
			for at := range f.Levels {
				s, e := river.Reaches(f, at+1)
				if !is {
					none++
					if s != (api.Span{}) || e != api.ErrBad {
						return false
					}
					continue
				}
				if s.Lo < s.Hi {
					differ++
				}
				if s != f.Levels[at] {
					told++
				}
				if s != span(w.worst[at], w.best[at]) || e != api.OK {
					return false
				}
			}
			return true
		})
	}
	if none < 200 || differ < 200 || told < 200 {
		t.Error(none, differ, told)
	}
}

// P10.2: the level of each bale, and the loads by each minute.
func TestLoadsByWords(t *testing.T) {
	counts := map[int]int{}
	ties := 0
	eachFlood(t, 200, large(), func(f api.Flood, _ *rand.Rand) bool {
		w := begin(f)
		for _, bale := range bales(f) {
			if n, e := river.Level(f, bale); n != w.levels[bale] || e != api.OK {
				return false
			}
		}
		for i := 1; i < len(w.loads); i++ {
			if w.loads[i-1].Minute == w.loads[i].Minute {
				ties++
			}
		}
		for _, minute := range ints(0, 1, 2, 3, 5, 8, 13, 21, 34, 55, 89, 599, 600) {
			want := slices.DeleteFunc(slices.Clone(w.loads), func(x api.Load) bool { return x.Minute > minute })
			counts[len(want)]++
			if l, e := river.Loads(f, minute); !slices.Equal(l, want) || e != api.OK {
				return false
			}
		}
		return true
	})
	if counts[0] < 100 || counts[1] < 50 || counts[5] < 20 || counts[10] < 10 || ties < 50 {
		t.Error(counts, ties)
	}
}

// P10.3, P10.11: whether each bale can be saved, of all orders.
func TestCanByWords(t *testing.T) {
	counts := map[uint8]int{}
	readSmall(t, 250, func(w words, _ *rand.Rand) bool {
		surely, perhaps := map[int]bool{}, map[int]bool{}
		for _, order := range w.orders() {
			for at, bale := range order {
				surely[bale] = surely[bale] || w.saves(order, at, w.worst)
				perhaps[bale] = perhaps[bale] || w.saves(order, at, w.best)
			}
		}
		for _, bale := range bales(w.Flood) {
			want := uint8(api.KnownOpen)
			if surely[bale] {
				want = api.KnownYes
			} else if !perhaps[bale] {
				want = api.KnownNo
			}
			counts[want]++
			if k, e := river.Can(w.Flood, bale); k != want || e != api.OK {
				return false
			}
		}
		return true
	})
	if counts[api.KnownNo] < 50 || counts[api.KnownOpen] < 20 || counts[api.KnownYes] < 100 {
		t.Error(counts)
	}
}

// P10.4, P10.5, P10.9, N8: the order by which the least is lost, whose loss it is, and what each order loses, of all orders.
func TestOrderByWords(t *testing.T) {
	counts, ties := map[int]int{}, 0
	readSmall(t, 300, func(w words, _ *rand.Rand) bool {
		order, least := w.least()
		counts[len(order)]++
		also := 0
		for _, x := range w.orders() {
			worst, best := w.lost(x, w.worst), w.lost(x, w.best)
			if worst == least && len(x) == len(order) {
				also++
			}
			// Also by an order by which some bale is not saved no less is lost.
			if s, e := river.Judge(w.Flood, x); s != span(best, worst) || e != api.OK || worst < least {
				return false
			}
		}
		if also > 1 {
			ties++
		}
		l, n, e := river.Order(w.Flood)
		return slices.Equal(l, order) && n == least && e == api.OK
	})
	if counts[0] < 20 || counts[1] < 20 || counts[2] < 20 || counts[3] < 20 || counts[4] < 10 || ties < 50 {
		t.Error(counts, ties)
	}
}

// P10.5, P10.14: what each owner loses.
func TestLossesByWords(t *testing.T) {
	counts := map[int]int{}
	readSmall(t, 200, func(w words, _ *rand.Rand) bool {
		order, _ := w.least()
		saved := w.saved(order, w.worst)
		var want []api.Loss
		for owner := 1; owner <= 3; owner++ {
			n := 0
			for _, x := range w.House.Owners {
				if x.Owner == owner && w.levels[x.Bale] > 0 && !slices.Contains(saved, x.Bale) {
					n += penceOf(w.Flood, x.Bale)
				}
			}
			if n > 0 {
				want = append(want, loss(owner, n))
			}
		}
		counts[len(want)]++
		l, e := river.Losses(w.Flood)
		return slices.Equal(l, want) && e == api.OK
	})
	if counts[0] < 20 || counts[1] < 20 || counts[2] < 20 || counts[3] < 5 {
		t.Error(counts)
	}
}

// P10.4: what can be saved behind what has gone, and by a minute, of all orders.
func TestRestByWords(t *testing.T) {
	some := 0
	readSmall(t, 250, func(w words, _ *rand.Rand) bool {
		for gone, want := range w.rests() {
			if want > 0 {
				some++
			}
			if n, e := river.Rest(w.Flood, gone[:len(w.piles)]); n != want || e != api.OK {
				return false
			}
		}
		for _, minute := range ints(0, 1, 2, 3, 4, 6, 9, 14, 22, 600) {
			want := 0
			v := w
			v.loads = slices.DeleteFunc(slices.Clone(w.loads), func(x api.Load) bool { return x.Minute > minute })
			for _, order := range w.orders() {
				want = max(want, penceOf(w.Flood, v.saved(order, w.worst)...))
			}
			if n, e := river.By(w.Flood, minute); n != want || e != api.OK {
				return false
			}
		}
		return true
	})
	if some < 300 {
		t.Error(some)
	}
}

// P10.5: what one gang more saves, of all orders.
func TestAddsByWords(t *testing.T) {
	counts := map[bool]int{}
	readSmall(t, 250, func(w words, c *rand.Rand) bool {
		_, least := w.least()
		for _, id := range ints(1, 2, 5, 9000) {
			if slices.ContainsFunc(w.Gangs, func(g api.Gang) bool { return g.Id == id }) {
				continue
			}
			g := anyGang(c, id)
			f := w.Flood
			f.Gangs = append(slices.Clone(f.Gangs), g)
			slices.SortFunc(f.Gangs, func(a, b api.Gang) int { return a.Id - b.Id })
			v := begin(f)
			v.worst = w.worst
			_, less := v.least()
			counts[less < least]++
			if n, e := river.Adds(w.Flood, g); n != least-less || e != api.OK {
				return false
			}
		}
		return true
	})
	if counts[false] < 100 || counts[true] < 100 {
		t.Error(counts)
	}
}

// P10.6, P10.15, N10: the fewest reports that must be false, of all sets of them.
func TestWrongByWords(t *testing.T) {
	counts := map[int]int{}
	eachFlood(t, 500, untrue(), func(f api.Flood, _ *rand.Rand) bool {
		bare := f
		bare.Reports = nil
		all := truths(bare)
		want, few := testhelp.Fewest(numbers(f), api.MaxUntrue, func(out []int) bool {
			left := without(f, out)
			return slices.ContainsFunc(all, func(x []int) bool { return isTruth(left, x) })
		})
		l, e := river.Wrong(f)
		switch {
		case len(all) == 0:
			counts[-2]++
			return len(l) == 0 && e == api.ErrNone
		case !few:
			counts[-1]++
			return len(l) == 0 && e == api.ErrMany
		}
		counts[len(l)]++
		return slices.Equal(l, want) && e == api.OK
	})
	if counts[-2] < 5 || counts[-1] < 5 || counts[0] < 50 || counts[1] < 50 || counts[2] < 30 || counts[3] < 10 {
		t.Error(counts)
	}
}
