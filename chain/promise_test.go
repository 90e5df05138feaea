package chain_test

import (
	"math"
	"math/rand"
	"slices"
	"testing"

	"middling/api"
	"middling/chain"
)

// closed returns how many bales move by each sale, and together.
func closed(c api.Chain) ([]int, int) {
	moves, n, _ := chain.Close(c)
	return moves, n
}

// P6.8, N4: nobody's account changes by the closing; no more bales move by a sale than were sold.
func TestNobodysAccountChanges(t *testing.T) {
	eachChain(t, 500, large(), func(c api.Chain, _ *rand.Rand) bool {
		moves, n := closed(c)
		var sold []int
		for i, s := range c.Sales {
			sold = append(sold, s.Bales)
			if moves[i] < 0 || moves[i] > s.Bales {
				return false
			}
		}
		owed, e := chain.Owed(c)
		return slices.Equal(owed, gets(c, moves)) && slices.Equal(owed, gets(c, sold)) && e == api.OK && n == total(moves)
	})
}

// rings calls what it is given with each list of changes by which bales go round, to no house twice: one bale more by some sales, and one fewer by some.
func rings(c api.Chain, moves []int, each func(changes []int)) {
	changes := make([]int, len(c.Sales))
	var round func(first, at int, been []int)
	round = func(first, at int, been []int) {
		for i, s := range c.Sales {
			for _, by := range ints(1, -1) {
				from, to := s.Seller, s.Buyer
				if by < 0 {
					from, to = to, from
				}
				n := moves[i] + changes[i] + by
				if from != at || n < 0 || n > s.Bales || changes[i] != 0 {
					continue
				}
				changes[i] += by
				if to == first {
					each(changes)
				} else if to > first && !slices.Contains(been, to) {
					round(first, to, append(been, to))
				}
				changes[i] -= by
			}
		}
	}
	for _, house := range c.Houses {
		round(house, house, nil)
	}
}

// P6.9, N4: by no ring of changes do fewer bales move, or as few by a closing before it; the numbers prove it.
func TestNoClosingIsBetter(t *testing.T) {
	worse, equal := 0, 0
	eachChain(t, 300, large(), func(c api.Chain, _ *rand.Rand) bool {
		moves, _ := closed(c)
		numbers, e := chain.Proof(c)
		better := false
		none := make([]int, len(c.Sales))
		rings(c, moves, func(changes []int) {
			switch n := total(changes); {
			case n < 0 || n == 0 && slices.Compare(changes, none) < 0:
				better = true
			case n == 0:
				equal++
			default:
				worse++
			}
		})
		return !better && e == api.OK && (words{Chain: c}).proves(moves, numbers)
	})
	if worse < 500 || equal < 200 {
		t.Error(worse, equal)
	}
}

// P6.2: no house's number can be less, if the others stay from 0 on.
func TestNumbersAreLeast(t *testing.T) {
	eachChain(t, 300, large(), func(c api.Chain, _ *rand.Rand) bool {
		moves, _ := closed(c)
		numbers, _ := chain.Proof(c)
		// Some numbers can be less all together if they can be by one each.
		for set := 1; set < 1<<len(numbers); set++ {
			less := slices.Clone(numbers)
			for i := range less {
				less[i] -= set >> i & 1
			}
			if slices.Min(less) >= 0 && (words{Chain: c}).proves(moves, less) {
				return false
			}
		}
		return true
	})
}

// P6.10, N4: each house hands out what it owes, and gets what it is owed; bales go to no house twice, and no sale goes round.
func TestNoRings(t *testing.T) {
	eachChain(t, 500, large(), func(c api.Chain, _ *rand.Rand) bool {
		moves, _ := closed(c)
		owed, _ := chain.Owed(c)
		hands, e := chain.Hands(c)
		got := make([]int, len(c.Houses))
		for _, h := range hands {
			if h.Bales < 1 || h.From == h.To {
				return false
			}
			from, to := slices.Index(c.Houses, h.From), slices.Index(c.Houses, h.To)
			// Who is owed bales hands out none, and who owes some gets none.
			if owed[from] >= 0 || owed[to] <= 0 {
				return false
			}
			got[from] -= h.Bales
			got[to] += h.Bales
		}
		w := words{Chain: c, owed: owed}
		want, twice := w.hands(moves)
		ring := false
		rings(c, moves, func(changes []int) { ring = ring || slices.Max(changes) <= 0 })
		return slices.Equal(got, owed) && slices.Equal(hands, want) && !twice && !ring && e == api.OK
	})
}

// P6.3: who passes bales on gets some, and gives some.
func TestPassesOn(t *testing.T) {
	some := 0
	eachChain(t, 300, large(), func(c api.Chain, _ *rand.Rand) bool {
		moves, _ := closed(c)
		passes, e := chain.Passes(c)
		some += len(passes)
		for _, house := range c.Houses {
			gets, gives := false, false
			for i, s := range c.Sales {
				gets, gives = gets || s.Buyer == house && moves[i] > 0, gives || s.Seller == house && moves[i] > 0
			}
			if slices.Contains(passes, house) != (gets && gives) {
				return false
			}
		}
		return e == api.OK && slices.IsSorted(passes)
	})
	if some < 100 {
		t.Error(some)
	}
}

// P6.11: what all houses are owed is nothing together; so is what they get for bales that do not move, at each price of the day the same.
func TestNothingTogether(t *testing.T) {
	eachChain(t, 300, large(), func(c api.Chain, r *rand.Rand) bool {
		owed, _ := chain.Owed(c)
		moves, _ := closed(c)
		price := []int{0, 100, 1000000, 80 + r.Intn(40)}[r.Intn(4)]
		pays, e := chain.Pays(c, price)
		return total(owed) == 0 && total(pays) == 0 && slices.Equal(pays, words{Chain: c}.pays(moves, price)) && e == api.OK
	})
}

// P6.12: as many bales move by each sale as is told, by any closing by which as few move.
func TestAsManyMove(t *testing.T) {
	open := 0
	eachChain(t, 40, size{6, 6, 5}, func(c api.Chain, _ *rand.Rand) bool {
		l := read(c).fewest()
		for i, s := range c.Sales {
			got, e := chain.Range(c, s.Number)
			least, most := false, false
			for _, x := range l {
				if x[i] < got.Lo || x[i] > got.Hi {
					return false
				}
				least, most = least || x[i] == got.Lo, most || x[i] == got.Hi
			}
			if got.Lo < got.Hi {
				open++
			}
			if !least || !most || e != api.OK {
				return false
			}
		}
		return true
	})
	if open < 10 {
		t.Error(open)
	}
}

// P6.12: of chains of full size the closing itself, and each one by which a bale goes round, is between.
func TestRingsAreBetween(t *testing.T) {
	eachChain(t, 100, large(), func(c api.Chain, _ *rand.Rand) bool {
		moves, _ := closed(c)
		var spans []api.Span
		for i, s := range c.Sales {
			x, e := chain.Range(c, s.Number)
			if e != api.OK || x.Lo < 0 || x.Hi > s.Bales || moves[i] < x.Lo || moves[i] > x.Hi {
				return false
			}
			spans = append(spans, x)
		}
		// If no bale more, or no fewer, goes round by a sale, none does by any closing by which as few move.
		least, most := slices.Clone(moves), slices.Clone(moves)
		rings(c, moves, func(changes []int) {
			if total(changes) != 0 {
				return
			}
			for i, by := range changes {
				least[i], most[i] = min(least[i], moves[i]+by), max(most[i], moves[i]+by)
			}
		})
		for i, x := range spans {
			if x.Lo > least[i] || x.Hi < most[i] || (x.Lo == moves[i]) != (least[i] == moves[i]) || (x.Hi == moves[i]) != (most[i] == moves[i]) {
				return false
			}
		}
		return true
	})
}

// P6.13: what the others lose lies between what is told, at each price of the day, and both ends come about.
func TestLossesAreBetween(t *testing.T) {
	some := 0
	eachChain(t, 200, large(), func(c api.Chain, r *rand.Rand) bool {
		w := words{Chain: c}
		prices := anyPrices(r)
		for _, stopped := range c.Houses {
			l, e := chain.Loses(c, stopped, prices)
			if e != api.OK || len(l) != len(c.Houses) {
				return false
			}
			trades := slices.ContainsFunc(c.Sales, func(s api.Sale) bool { return s.Seller == stopped || s.Buyer == stopped })
			for i, house := range c.Houses {
				least, most := false, false
				for price := prices.Lo; price <= prices.Hi; price++ {
					n := w.loses(house, stopped, price)
					if n < l[i].Lo || n > l[i].Hi {
						return false
					}
					least, most = least || n == l[i].Lo, most || n == l[i].Hi
				}
				// Nobody loses by a house with which nobody has a sale, nor that house by itself.
				if !least || !most || (!trades || house == stopped) && l[i] != span(0, 0) {
					return false
				}
				some += min(1, l[i].Hi)
			}
		}
		return true
	})
	if some < 500 {
		t.Error(some)
	}
}

// P6.5, P6.13: by no other house's stopping is more lost; wider prices lose no less.
func TestWorstIsWorst(t *testing.T) {
	eachChain(t, 300, large(), func(c api.Chain, r *rand.Rand) bool {
		prices := anyPrices(r)
		worst, most, e := chain.Worst(c, prices)
		if len(c.Houses) == 0 {
			return e == api.ErrNone
		}
		for _, house := range c.Houses {
			l, _ := chain.Loses(c, house, prices)
			n := 0
			for _, s := range l {
				n += s.Hi
			}
			if n > most || n == most && house < worst || house == worst && n != most {
				return false
			}
		}
		_, wider, f := chain.Worst(c, span(prices.Lo-1, prices.Hi+1))
		return wider >= most && e == api.OK && f == api.OK
	})
}

// P6.14: two sales more, one back at as many bales as the other one, never make more bales move; not both of them move.
func TestThereAndBack(t *testing.T) {
	fewer, moved := 0, 0
	eachChain(t, 500, size{6, 8, 9}, func(c api.Chain, r *rand.Rand) bool {
		if len(c.Houses) < 2 {
			return true
		}
		_, before := closed(c)
		x := anySale(r, c.Houses, 100, 9)
		more, e := chain.Put(c, x)
		adds, f := chain.Adds(c, x)
		_, n := closed(more)
		if e != api.OK || f != api.OK || adds != n-before {
			return false
		}
		x.Number, x.Seller, x.Buyer = 101, x.Buyer, x.Seller
		both, e := chain.Put(more, x)
		moves, after := closed(both)
		there, back := moves[len(moves)-2], moves[len(moves)-1]
		if after < before {
			fewer++
		}
		moved += min(1, there+back)
		return e == api.OK && after <= before && (there == 0 || back == 0)
	})
	if fewer < 20 || moved < 20 {
		t.Error(fewer, moved)
	}
}

// P6.15: each sale of a way goes on from the buyer of the one before it; by no fewer can a bale go.
func TestNoWayIsShorter(t *testing.T) {
	counts := map[int]int{}
	eachChain(t, 200, large(), func(c api.Chain, _ *rand.Rand) bool {
		for _, from := range c.Houses {
			for _, to := range c.Houses {
				l, e := chain.Way(c, from, to)
				n, is := (words{Chain: c}).reaches(from, to)
				if len(l) != n || is != (e == api.OK) || !is && e != api.ErrNone {
					return false
				}
				counts[len(l)]++
				at := from
				for _, number := range l {
					s := c.Sales[slices.Index(numbersOf(c), number)]
					if s.Seller != at {
						return false
					}
					at = s.Buyer
				}
				if is && at != to {
					return false
				}
			}
		}
		return true
	})
	if counts[0] < 50 || counts[1] < 50 || counts[2] < 50 || counts[3] < 50 || counts[4] < 10 {
		t.Error(counts)
	}
}

// P6.16: a sale that is struck, and put again, is as before.
func TestStruckAndPut(t *testing.T) {
	eachChain(t, 200, large(), func(c api.Chain, _ *rand.Rand) bool {
		for _, s := range c.Sales {
			less, e := chain.Strike(c, ints(s.Number))
			again, f := chain.Put(less, s)
			adds, g := chain.Adds(less, s)
			_, before := closed(less)
			_, after := closed(c)
			if len(less.Sales) != len(c.Sales)-1 || !same(again, c) || adds != after-before || e != api.OK || f != api.OK || g != api.OK {
				return false
			}
		}
		return true
	})
}

// P6.16: a house that stopped is owed nothing, and stays.
func TestStoppedIsOwedNothing(t *testing.T) {
	eachChain(t, 200, large(), func(c api.Chain, r *rand.Rand) bool {
		for i, house := range c.Houses {
			left, e := chain.Stop(c, house)
			owed, f := chain.Owed(left)
			if e != api.OK || f != api.OK || owed[i] != 0 || !slices.Equal(left.Houses, c.Houses) {
				return false
			}
			for _, s := range c.Sales {
				if slices.Contains(left.Sales, s) != (s.Seller != house && s.Buyer != house) {
					return false
				}
			}
			if l, e := chain.Loses(left, house, anyPrices(r)); e != api.OK || slices.ContainsFunc(l, func(s api.Span) bool { return s != span(0, 0) }) {
				return false
			}
		}
		return true
	})
}

// P1, R5, R7: each call ends with an answer, whatever its arguments are.
func TestAnyValue(t *testing.T) {
	odd := ints(math.MinInt, math.MinInt+1, -1, 0, 1, 2, 3, 4, 5, 9, 10, 9999, 10000, 1000000, 1000001, math.MaxInt-1, math.MaxInt)
	r := rand.New(rand.NewSource(6))
	some := func() int { return odd[r.Intn(len(odd))] }
	put := func() api.Sale {
		if r.Intn(2) == 0 {
			return sale(some(), 1+r.Intn(4), 1+r.Intn(4), 1+r.Intn(9), some())
		}
		return sale(some(), some(), some(), some(), some())
	}
	for range 5000 {
		c := example()
		for range r.Intn(3) {
			switch r.Intn(4) {
			case 0:
				c.Houses = append(c.Houses, some())
			case 1:
				c.Houses = slices.Repeat(ints(some()), r.Intn(9))
			case 2:
				c.Sales = append(c.Sales, put())
			case 3:
				c.Sales = slices.Repeat([]api.Sale{put()}, r.Intn(13))
			}
		}
		x := asks{some(), some(), some(), some(), span(some(), some()), put(), slices.Repeat(ints(some()), r.Intn(3))}
		for _, f := range calls() {
			if is, e := f.do(c, x); e != api.OK && !is {
				t.Fatal(f.name, c, x, e)
			}
		}
	}
}
