package chain_test

import (
	"math/rand"
	"slices"
	"testing"

	"middling/api"
	"middling/chain"
)

// words are what the chapter's words tell of a chain: what each house is owed, and all closings, in the order of lists.
type words struct {
	api.Chain
	owed     []int
	closings [][]int
}

func total(l []int) int {
	n := 0
	for _, x := range l {
		n += x
	}
	return n
}

// gets tells how many bales each house gets less those that it gives, if so many move by each sale.
func gets(c api.Chain, moves []int) []int {
	l := make([]int, len(c.Houses))
	for i, s := range c.Sales {
		l[slices.Index(c.Houses, s.Buyer)] += moves[i]
		l[slices.Index(c.Houses, s.Seller)] -= moves[i]
	}
	return l
}

func read(c api.Chain) words {
	w := words{Chain: c}
	all := [][]int{nil}
	var sold []int
	for _, s := range c.Sales {
		sold = append(sold, s.Bales)
		var longer [][]int
		for _, l := range all {
			for n := range s.Bales + 1 {
				longer = append(longer, append(slices.Clone(l), n))
			}
		}
		all = longer
	}
	w.owed = gets(c, sold)
	for _, l := range all {
		if slices.Equal(gets(c, l), w.owed) {
			w.closings = append(w.closings, l)
		}
	}
	return w
}

// fewest tells all closings by which the fewest bales move, in the order of lists: the first one is the closing.
func (w words) fewest() [][]int {
	var l [][]int
	for _, x := range w.closings {
		if len(l) > 0 && total(x) < total(l[0]) {
			l = nil
		}
		if len(l) == 0 || total(x) == total(l[0]) {
			l = append(l, x)
		}
	}
	return l
}

// proves tells whether numbers of houses prove that no closing moves fewer.
func (w words) proves(moves, numbers []int) bool {
	for i, s := range w.Sales {
		seller, buyer := numbers[slices.Index(w.Houses, s.Seller)], numbers[slices.Index(w.Houses, s.Buyer)]
		if moves[i] > 0 && buyer <= seller || moves[i] < s.Bales && buyer > seller+1 {
			return false
		}
	}
	return true
}

// proof tells the least numbers that prove it, of all that are at most as great as there are houses.
func (w words) proof(moves []int) []int {
	all := [][]int{nil}
	for range w.Houses {
		var longer [][]int
		for _, l := range all {
			for n := range len(w.Houses) + 1 {
				longer = append(longer, append(slices.Clone(l), n))
			}
		}
		all = longer
	}
	var least []int
	for _, l := range all {
		if !w.proves(moves, l) {
			continue
		}
		if least == nil {
			least = slices.Clone(l)
		}
		for i, n := range l {
			least[i] = min(least[i], n)
		}
	}
	return least
}

// hands tells who hands how many bales to whom, bale by bale, and whether some bale comes to a house twice.
func (w words) hands(moves []int) ([]api.Handed, bool) {
	var l []api.Handed
	twice := false
	left := slices.Clone(moves)
	for i, from := range w.Houses {
		for range max(0, -w.owed[i]) {
			been := ints(from)
			at := from
			for {
				next := slices.IndexFunc(w.Sales, func(s api.Sale) bool {
					return s.Seller == at && left[slices.Index(w.Sales, s)] > 0
				})
				if next < 0 {
					break
				}
				left[next]--
				at = w.Sales[next].Buyer
				twice = twice || slices.Contains(been, at)
				been = append(been, at)
			}
			k := slices.IndexFunc(l, func(h api.Handed) bool { return h.From == from && h.To == at })
			if k < 0 {
				l = append(l, handed(from, at, 1))
			} else {
				l[k].Bales++
			}
		}
	}
	slices.SortFunc(l, func(a, b api.Handed) int { return slices.Compare(ints(a.From, a.To), ints(b.From, b.To)) })
	return l, twice
}

// pays tells what each house gets for bales that do not move, bale by bale.
func (w words) pays(moves []int, price int) []int {
	l := make([]int, len(w.Houses))
	for i, s := range w.Sales {
		for range s.Bales - moves[i] {
			l[slices.Index(w.Houses, s.Seller)] += s.Price - price
			l[slices.Index(w.Houses, s.Buyer)] -= s.Price - price
		}
	}
	return l
}

// loses tells what a house loses at a price if another one stops, bale by bale.
func (w words) loses(house, stopped, price int) int {
	n := 0
	for _, s := range w.Sales {
		for range s.Bales {
			switch {
			case s.Buyer == house && s.Seller == stopped:
				n += price - s.Price
			case s.Seller == house && s.Buyer == stopped:
				n += s.Price - price
			}
		}
	}
	if house == stopped || n < 0 {
		return 0
	}
	return n
}

// losses tells what each house loses at least and at most, price by price.
func (w words) losses(stopped int, prices api.Span) []api.Span {
	var l []api.Span
	for _, house := range w.Houses {
		n := w.loses(house, stopped, prices.Lo)
		s := span(n, n)
		for price := prices.Lo; price <= prices.Hi; price++ {
			n := w.loses(house, stopped, price)
			s = span(min(s.Lo, n), max(s.Hi, n))
		}
		l = append(l, s)
	}
	return l
}

// way tells the first one of the shortest lists of sales, each one on from the buyer of the one before it.
func (w words) way(from, to int) ([]int, bool) {
	all := [][]api.Sale{nil}
	for range w.Houses {
		var longer [][]api.Sale
		for _, l := range all {
			at := from
			var numbers []int
			for _, s := range l {
				if s.Seller != at {
					at = -1
					break
				}
				at = s.Buyer
				numbers = append(numbers, s.Number)
			}
			if at == to {
				return numbers, true
			}
			for _, s := range w.Sales {
				longer = append(longer, append(slices.Clone(l), s))
			}
		}
		all = longer
	}
	return nil, false
}

// P6.2, P6.9: what each house is owed, the closing, and its proof, of all closings.
func TestClosingByWords(t *testing.T) {
	fewer, ties := 0, 0
	eachChain(t, 400, small(), func(c api.Chain, _ *rand.Rand) bool {
		w := read(c)
		l := w.fewest()
		if len(w.closings) > len(l) {
			fewer++
		}
		if len(l) > 1 {
			ties++
		}
		owed, e := chain.Owed(c)
		moves, n, f := chain.Close(c)
		return slices.Equal(owed, w.owed) && e == api.OK && slices.Equal(moves, l[0]) && n == total(l[0]) && f == api.OK
	})
	if fewer < 100 || ties < 20 {
		t.Error(fewer, ties)
	}
}

// P6.2: the least numbers that prove the closing, of all numbers.
func TestProofByWords(t *testing.T) {
	counts := map[int]int{}
	eachChain(t, 400, small(), func(c api.Chain, _ *rand.Rand) bool {
		w := read(c)
		want := w.proof(w.fewest()[0])
		for _, n := range want {
			counts[n]++
		}
		numbers, e := chain.Proof(c)
		return slices.Equal(numbers, want) && e == api.OK && w.proves(w.fewest()[0], want)
	})
	if counts[0] < 50 || counts[1] < 50 || counts[2] < 50 || counts[3] < 10 {
		t.Error(counts)
	}
}

// P6.2, P6.12: how many bales move by each sale, in all closings by which as few move.
func TestRangeByWords(t *testing.T) {
	open, shut := 0, 0
	eachChain(t, 300, small(), func(c api.Chain, _ *rand.Rand) bool {
		l := read(c).fewest()
		for i, s := range c.Sales {
			want := span(l[0][i], l[0][i])
			for _, x := range l {
				want = span(min(want.Lo, x[i]), max(want.Hi, x[i]))
			}
			if want.Lo < want.Hi {
				open++
			} else {
				shut++
			}
			if got, e := chain.Range(c, s.Number); got != want || e != api.OK {
				return false
			}
		}
		return true
	})
	if open < 50 || shut < 50 {
		t.Error(open, shut)
	}
}

// P6.3: who passes bales on, and who hands how many to whom, bale by bale.
func TestHandsByWords(t *testing.T) {
	passed, many := 0, 0
	eachChain(t, 400, small(), func(c api.Chain, _ *rand.Rand) bool {
		w := read(c)
		moves := w.fewest()[0]
		var passes []int
		for _, house := range c.Houses {
			in, out := 0, 0
			for i, s := range c.Sales {
				if s.Buyer == house {
					in += moves[i]
				}
				if s.Seller == house {
					out += moves[i]
				}
			}
			if in > 0 && out > 0 {
				passes = append(passes, house)
			}
		}
		hands, twice := w.hands(moves)
		passed += len(passes)
		if len(hands) > 2 {
			many++
		}
		l, e := chain.Passes(c)
		k, f := chain.Hands(c)
		return !twice && slices.Equal(l, passes) && e == api.OK && slices.Equal(k, hands) && f == api.OK
	})
	if passed < 50 || many < 20 {
		t.Error(passed, many)
	}
}

// P6.4, P6.5: what is paid, and what is lost if a house stops, price by price.
func TestPenceByWords(t *testing.T) {
	counts := map[bool]int{}
	eachChain(t, 200, small(), func(c api.Chain, r *rand.Rand) bool {
		w := read(c)
		prices := anyPrices(r)
		pays, e := chain.Pays(c, prices.Lo)
		if !slices.Equal(pays, w.pays(w.fewest()[0], prices.Lo)) || e != api.OK {
			return false
		}
		worst, most := 0, -1
		for _, house := range c.Houses {
			want := w.losses(house, prices)
			n := 0
			for _, s := range want {
				n += s.Hi
				counts[s.Lo > 0]++
			}
			if n > most {
				worst, most = house, n
			}
			if l, e := chain.Loses(c, house, prices); !slices.Equal(l, want) || e != api.OK {
				return false
			}
		}
		house, n, e := chain.Worst(c, prices)
		if len(c.Houses) == 0 {
			return house == 0 && n == 0 && e == api.ErrNone
		}
		return house == worst && n == most && e == api.OK
	})
	if counts[true] < 50 || counts[false] < 50 {
		t.Error(counts)
	}
}

// P6.6: what one sale more adds, of all closings.
func TestAddsByWords(t *testing.T) {
	counts := map[bool]int{}
	eachChain(t, 300, small(), func(c api.Chain, r *rand.Rand) bool {
		if len(c.Houses) < 2 {
			return true
		}
		more := copied(c)
		x := anySale(r, c.Houses, 100, 3)
		more.Sales = append(more.Sales, x)
		want := total(read(more).fewest()[0]) - total(read(c).fewest()[0])
		counts[want < 0]++
		n, e := chain.Adds(c, x)
		return n == want && e == api.OK
	})
	if counts[true] < 20 || counts[false] < 20 {
		t.Error(counts)
	}
}

// P6.6, P6.15: the way from each house to each one, of all lists of sales.
func TestWayByWords(t *testing.T) {
	counts := map[int]int{}
	eachChain(t, 200, small(), func(c api.Chain, _ *rand.Rand) bool {
		w := read(c)
		for _, from := range c.Houses {
			for _, to := range c.Houses {
				want, is := w.way(from, to)
				counts[len(want)]++
				l, e := chain.Way(c, from, to)
				if !slices.Equal(l, want) || is != (e == api.OK) || !is && e != api.ErrNone {
					return false
				}
			}
		}
		return true
	})
	if counts[0] < 50 || counts[1] < 50 || counts[2] < 50 || counts[3] < 10 {
		t.Error(counts)
	}
}
