package chain_test

import (
	"math"
	"slices"
	"strings"
	"testing"

	"middling/api"
	"middling/chain"
	"middling/testhelp"
)

// asks are the arguments of a call.
type asks struct {
	house, to, number, price int
	prices                   api.Span
	sale                     api.Sale
	numbers                  []int
}

// call is one of the functions, for its errors: takes names what it can find amiss, in order; do tells whether all its other results are zero, with its error.
type call struct {
	name, takes string
	do          func(c api.Chain, x asks) (bool, api.Errno)
}

func noChain(c api.Chain, e api.Errno) (bool, api.Errno) { return same(c, api.Chain{}), e }

func calls() []call {
	return []call{
		{"Check", "", func(c api.Chain, x asks) (bool, api.Errno) { return true, chain.Check(c) }},
		{"Owed", "", func(c api.Chain, x asks) (bool, api.Errno) { return testhelp.NoList(chain.Owed(c)) }},
		{"Close", "", func(c api.Chain, x asks) (bool, api.Errno) {
			l, n, e := chain.Close(c)
			return len(l) == 0 && n == 0, e
		}},
		{"Proof", "", func(c api.Chain, x asks) (bool, api.Errno) { return testhelp.NoList(chain.Proof(c)) }},
		{"Range", "number", func(c api.Chain, x asks) (bool, api.Errno) { return testhelp.Zero(chain.Range(c, x.number)) }},
		{"Passes", "", func(c api.Chain, x asks) (bool, api.Errno) { return testhelp.NoList(chain.Passes(c)) }},
		{"Hands", "", func(c api.Chain, x asks) (bool, api.Errno) { return testhelp.NoList(chain.Hands(c)) }},
		{"Pays", "price", func(c api.Chain, x asks) (bool, api.Errno) { return testhelp.NoList(chain.Pays(c, x.price)) }},
		{"Loses", "house prices", func(c api.Chain, x asks) (bool, api.Errno) { return testhelp.NoList(chain.Loses(c, x.house, x.prices)) }},
		{"Worst", "prices any", func(c api.Chain, x asks) (bool, api.Errno) {
			h, n, e := chain.Worst(c, x.prices)
			return h == 0 && n == 0, e
		}},
		{"Adds", "sale", func(c api.Chain, x asks) (bool, api.Errno) { return testhelp.Zero(chain.Adds(c, x.sale)) }},
		{"Way", "house to way", func(c api.Chain, x asks) (bool, api.Errno) { return testhelp.NoList(chain.Way(c, x.house, x.to)) }},
		{"Put", "room sale", func(c api.Chain, x asks) (bool, api.Errno) { return noChain(chain.Put(c, x.sale)) }},
		{"Strike", "numbers", func(c api.Chain, x asks) (bool, api.Errno) { return noChain(chain.Strike(c, x.numbers)) }},
		{"Stop", "house", func(c api.Chain, x asks) (bool, api.Errno) { return noChain(chain.Stop(c, x.house)) }},
	}
}

// P6.1, R5, R6: what is a chain, and what is not.
func TestCheck(t *testing.T) {
	for name, x := range map[string]struct {
		change func(c *api.Chain)
		valid  bool
	}{
		"as it is":               {func(c *api.Chain) {}, true},
		"no value":               {func(c *api.Chain) { *c = api.Chain{} }, true},
		"full":                   {func(c *api.Chain) { *c = full() }, true},
		"one house alone":        {func(c *api.Chain) { *c = simple(1) }, true},
		"six houses":             {func(c *api.Chain) { c.Houses = ints(1, 2, 3, 4, 5, 6) }, true},
		"seven houses":           {func(c *api.Chain) { c.Houses = ints(1, 2, 3, 4, 5, 6, 7) }, false},
		"seven houses alone":     {func(c *api.Chain) { *c = simple(7) }, false},
		"a house twice":          {func(c *api.Chain) { c.Houses = ints(1, 2, 3, 3, 4) }, false},
		"houses the wrong way":   {func(c *api.Chain) { slices.Reverse(c.Houses) }, false},
		"the house 0":            {func(c *api.Chain) { c.Houses = ints(0, 1, 2, 3, 4) }, false},
		"a house below 0":        {func(c *api.Chain) { c.Houses = ints(math.MinInt, 1, 2, 3, 4) }, false},
		"the house 9999":         {func(c *api.Chain) { c.Houses = ints(1, 2, 3, 4, 9999) }, true},
		"the house 10000":        {func(c *api.Chain) { c.Houses = ints(1, 2, 3, 4, 10000) }, false},
		"a great house":          {func(c *api.Chain) { c.Houses = ints(1, 2, 3, 4, math.MaxInt) }, false},
		"houses that are missed": {func(c *api.Chain) { c.Houses = nil }, false},
		"no sale":                {func(c *api.Chain) { c.Sales = nil }, true},
		"eleven sales":           {func(c *api.Chain) { *c = full(); c.Sales = slices.Insert(c.Sales, 9, sale(50, 1, 2, 1, 0)) }, false},
		"eleven sales behind": {func(c *api.Chain) {
			*c = full()
			c.Sales[9].Number = 50
			c.Sales = append(c.Sales, sale(60, 1, 2, 1, 0))
		}, false},
		"the sale 0":                 {func(c *api.Chain) { c.Sales[0].Number = 0 }, false},
		"a sale below 0":             {func(c *api.Chain) { c.Sales[0].Number = math.MinInt }, false},
		"a sale twice":               {func(c *api.Chain) { c.Sales[1].Number = 1 }, false},
		"sales the wrong way":        {func(c *api.Chain) { slices.Reverse(c.Sales) }, false},
		"the sale 9999":              {func(c *api.Chain) { c.Sales[4].Number = 9999 }, true},
		"the sale 10000":             {func(c *api.Chain) { c.Sales[4].Number = 10000 }, false},
		"a great sale":               {func(c *api.Chain) { c.Sales[4].Number = math.MaxInt }, false},
		"a seller that buys":         {func(c *api.Chain) { c.Sales[0].Seller = 2 }, false},
		"another seller":             {func(c *api.Chain) { c.Sales[0].Seller = 5 }, false},
		"no seller":                  {func(c *api.Chain) { c.Sales[2].Seller = 0 }, false},
		"a seller below 0":           {func(c *api.Chain) { c.Sales[2].Seller = -1 }, false},
		"a great seller":             {func(c *api.Chain) { c.Sales[2].Seller = math.MaxInt }, false},
		"another buyer":              {func(c *api.Chain) { c.Sales[4].Buyer = 5 }, false},
		"no buyer":                   {func(c *api.Chain) { c.Sales[4].Buyer = 0 }, false},
		"a buyer below 0":            {func(c *api.Chain) { c.Sales[4].Buyer = math.MinInt }, false},
		"no bale":                    {func(c *api.Chain) { c.Sales[1].Bales = 0 }, false},
		"one bale":                   {func(c *api.Chain) { c.Sales[1].Bales = 1 }, true},
		"nine bales":                 {func(c *api.Chain) { c.Sales[1].Bales = 9 }, true},
		"ten bales":                  {func(c *api.Chain) { c.Sales[1].Bales = 10 }, false},
		"bales below 0":              {func(c *api.Chain) { c.Sales[1].Bales = math.MinInt }, false},
		"many bales":                 {func(c *api.Chain) { c.Sales[4].Bales = math.MaxInt }, false},
		"a sale for nothing":         {func(c *api.Chain) { c.Sales[3].Price = 0 }, true},
		"a price below 0":            {func(c *api.Chain) { c.Sales[3].Price = -1 }, false},
		"the least price of all":     {func(c *api.Chain) { c.Sales[3].Price = math.MinInt }, false},
		"the price 1000000":          {func(c *api.Chain) { c.Sales[3].Price = 1000000 }, true},
		"the price 1000001":          {func(c *api.Chain) { c.Sales[3].Price = 1000001 }, false},
		"a great price":              {func(c *api.Chain) { c.Sales[3].Price = math.MaxInt }, false},
		"a sale of no value":         {func(c *api.Chain) { c.Sales[0] = api.Sale{} }, false},
		"a sale without its houses":  {func(c *api.Chain) { *c = api.Chain{Sales: []api.Sale{sale(1, 1, 2, 1, 1)}} }, false},
		"a sale to the house itself": {func(c *api.Chain) { *c = simple(1, [3]int{1, 1, 1}) }, false},
	} {
		c := changed(x.change)
		want := api.OK
		if !x.valid {
			want = api.ErrChain
		}
		if e := chain.Check(c); e != want {
			t.Error(name, e)
		}
		for _, f := range calls() {
			is, e := f.do(c, asks{house: -1, to: -1, number: -1, price: -1, prices: span(2, 1), numbers: ints(-1)})
			if !x.valid && (e != api.ErrChain || !is) || x.valid && e == api.ErrChain {
				t.Error(name, f.name, is, e)
			}
		}
	}
}

// P6.1, R1, R2: errors in their order, with zero values.
func TestErrorsInOrder(t *testing.T) {
	for _, c := range []api.Chain{example(), full(), simple(3), {}, broken()} {
		for _, f := range calls() {
			for _, x := range everyAsk() {
				want := api.ErrChain
				if !same(c, broken()) {
					want = wanted(f, x, c)
				}
				if is, e := f.do(c, x); e != want || e != api.OK && !is {
					t.Error(f.name, x, is, e, want)
				}
			}
		}
	}
}

// everyAsk returns arguments of which some are valid.
func everyAsk() []asks {
	var l []asks
	odd := ints(0, -1, 10000, 1000001, math.MinInt, math.MaxInt)
	for _, a := range append(ints(1, 2, 4, 6), odd...) {
		for _, b := range append(ints(1, 3, 5, 20, 1000000), odd...) {
			for _, numbers := range [][]int{nil, ints(1), ints(1, 3, 5), ints(3, 1), ints(1, 1), ints(b), ints(1, 2, 3, 4, 5, 10, 20, 30, 40, 9999, 10000)} {
				l = append(l, asks{a, b, b, b, span(a, b), sale(50, a, b, 1, 1), numbers})
			}
			l = append(l, asks{a, b, a, a, span(b, b), sale(a, 1, 2, 1, 1), nil}, asks{a, b, a, a, span(0, b), sale(7, 1, 2, a, b), nil})
		}
	}
	return l
}

func isPrice(n int) bool { return n >= 0 && n <= 1000000 }

// wouldFit tells whether a sale can be put to a chain, however many there are.
func wouldFit(c api.Chain, x api.Sale) bool {
	return x.Number >= 1 && x.Number <= 9999 && !slices.Contains(numbersOf(c), x.Number) && slices.Contains(c.Houses, x.Seller) && slices.Contains(c.Houses, x.Buyer) && x.Seller != x.Buyer && x.Bales >= 1 && x.Bales <= 9 && isPrice(x.Price)
}

// wanted is the error of a call on a valid chain, by the sentences of P6.1 and those of the call.
func wanted(f call, x asks, c api.Chain) api.Errno {
	for _, word := range strings.Fields(f.takes) {
		switch {
		case word == "house" && !slices.Contains(c.Houses, x.house), word == "to" && !slices.Contains(c.Houses, x.to), word == "any" && len(c.Houses) == 0:
			return api.ErrNone
		case word == "number" && !slices.Contains(numbersOf(c), x.number), word == "sale" && !wouldFit(c, x.sale):
			return api.ErrSale
		case word == "price" && !isPrice(x.price), word == "prices" && (!isPrice(x.prices.Lo) || !isPrice(x.prices.Hi) || x.prices.Lo > x.prices.Hi):
			return api.ErrPrice
		case word == "room" && len(c.Sales) == api.MaxSales:
			return api.ErrFull
		case word == "numbers" && !areNumbers(c, x.numbers):
			return api.ErrSale
		case word == "way":
			if _, is := (words{Chain: c}).reaches(x.house, x.to); !is {
				return api.ErrNone
			}
		}
	}
	return api.OK
}

// areNumbers tells whether numbers are those of sales, in increasing order, no one twice.
func areNumbers(c api.Chain, l []int) bool {
	for i, n := range l {
		if i > 0 && n <= l[i-1] || !slices.Contains(numbersOf(c), n) {
			return false
		}
	}
	return true
}

// reaches tells by how many sales at least a bale can go from one house to another one: how many there are between each two is made less through each third one.
func (w words) reaches(from, to int) (int, bool) {
	far := map[[2]int]int{}
	for _, a := range w.Houses {
		far[[2]int{a, a}] = 0
	}
	for _, s := range w.Sales {
		far[[2]int{s.Seller, s.Buyer}] = 1
	}
	for _, by := range w.Houses {
		for _, a := range w.Houses {
			for _, b := range w.Houses {
				m, is := far[[2]int{a, by}]
				n, also := far[[2]int{by, b}]
				if k, was := far[[2]int{a, b}]; is && also && (!was || m+n < k) {
					far[[2]int{a, b}] = m + n
				}
			}
		}
	}
	n, is := far[[2]int{from, to}]
	return n, is
}
