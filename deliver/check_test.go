package deliver_test

import (
	"math"
	"slices"
	"strings"
	"testing"

	"middling/api"
	"middling/deliver"
	"middling/testhelp"
)

// asks are the arguments of a call.
type asks struct {
	ware, deal int
	plan       []int
	put        api.Ware
	sign       api.Deal
}

// call is one of the functions, for its errors: takes names what it can find amiss, in order; do tells whether all its other results are zero, with its error.
type call struct {
	name, takes string
	do          func(y api.Yard, x asks) (bool, api.Errno)
}

func noYard(y api.Yard, e api.Errno) (bool, api.Errno) { return same(y, api.Yard{}), e }

func noValue(bales, risks, pence int, e api.Errno) (bool, api.Errno) {
	return bales == 0 && risks == 0 && pence == 0, e
}

func calls() []call {
	return []call{
		{"Check", "", func(y api.Yard, x asks) (bool, api.Errno) { return true, deliver.Check(y) }},
		{"Can", "ware deal", func(y api.Yard, x asks) (bool, api.Errno) { return testhelp.Zero(deliver.Can(y, x.ware, x.deal)) }},
		{"Cost", "ware deal pair", func(y api.Yard, x asks) (bool, api.Errno) { return testhelp.Zero(deliver.Cost(y, x.ware, x.deal)) }},
		{"Plan", "", func(y api.Yard, x asks) (bool, api.Errno) { return testhelp.NoList(deliver.Plan(y)) }},
		{"Value", "", func(y api.Yard, x asks) (bool, api.Errno) { return noValue(deliver.Value(y)) }},
		{"Prices", "", func(y api.Yard, x asks) (bool, api.Errno) {
			l, k, e := deliver.Prices(y)
			return len(l) == 0 && len(k) == 0, e
		}},
		{"Lacks", "lack", func(y api.Yard, x asks) (bool, api.Errno) {
			l, n, e := deliver.Lacks(y)
			return len(l) == 0 && n == 0, e
		}},
		{"Without", "ware", func(y api.Yard, x asks) (bool, api.Errno) { return noValue(deliver.Without(y, x.ware)) }},
		{"Spare", "", func(y api.Yard, x asks) (bool, api.Errno) { return testhelp.NoList(deliver.Spare(y)) }},
		{"Sure", "", func(y api.Yard, x asks) (bool, api.Errno) { return testhelp.NoList(deliver.Sure(y)) }},
		{"Judge", "plan", func(y api.Yard, x asks) (bool, api.Errno) { return noValue(deliver.Judge(y, x.plan)) }},
		{"Worse", "plan", func(y api.Yard, x asks) (bool, api.Errno) { return testhelp.Zero(deliver.Worse(y, x.plan)) }},
		{"Put", "put", func(y api.Yard, x asks) (bool, api.Errno) { return noYard(deliver.Put(y, x.put)) }},
		{"Take", "ware", func(y api.Yard, x asks) (bool, api.Errno) { return noYard(deliver.Take(y, x.ware)) }},
		{"Sign", "sign", func(y api.Yard, x asks) (bool, api.Errno) { return noYard(deliver.Sign(y, x.sign)) }},
		{"Drop", "deal", func(y api.Yard, x asks) (bool, api.Errno) { return noYard(deliver.Drop(y, x.deal)) }},
	}
}

// P5.1, R5, R6: what is a yard, and what is not.
func TestCheck(t *testing.T) {
	for name, x := range map[string]struct {
		change func(y *api.Yard)
		valid  bool
	}{
		"as it is":                 {func(y *api.Yard) {}, true},
		"no value":                 {func(y *api.Yard) { *y = api.Yard{} }, true},
		"full":                     {func(y *api.Yard) { *y = full() }, true},
		"the month 0":              {func(y *api.Yard) { y.Month = 0 }, true},
		"the month 60":             {func(y *api.Yard) { y.Month = 60 }, true},
		"the month -1":             {func(y *api.Yard) { y.Month = -1 }, false},
		"the month 61":             {func(y *api.Yard) { y.Month = 61 }, false},
		"a great month":            {func(y *api.Yard) { y.Month = math.MaxInt }, false},
		"a month below 0":          {func(y *api.Yard) { *y = api.Yard{Month: math.MinInt} }, false},
		"no deal":                  {func(y *api.Yard) { y.Deals = nil }, true},
		"four deals":               {func(y *api.Yard) { *y = full(); y.Deals = append(y.Deals, flat(6, 1, 9, 1)) }, false},
		"four deals alone":         {func(y *api.Yard) { *y = even(ints(1, 1, 1, 1)) }, false},
		"a deal twice":             {func(y *api.Yard) { y.Deals[1].Id = 1 }, false},
		"deals the wrong way":      {func(y *api.Yard) { slices.Reverse(y.Deals) }, false},
		"the deal 0":               {func(y *api.Yard) { y.Deals[0].Id = 0 }, false},
		"a deal below 0":           {func(y *api.Yard) { y.Deals[0].Id = math.MinInt }, false},
		"the deal 9999":            {func(y *api.Yard) { y.Deals[1].Id = 9999 }, true},
		"the deal 10000":           {func(y *api.Yard) { y.Deals[1].Id = 10000 }, false},
		"a great deal":             {func(y *api.Yard) { y.Deals[1].Id = math.MaxInt }, false},
		"a deal of no value":       {func(y *api.Yard) { y.Deals[0] = api.Deal{Id: 1} }, false},
		"a deal of no Bale":        {func(y *api.Yard) { y.Deals[1].Terms.Bales = 0 }, false},
		"a deal of 20 Bales":       {func(y *api.Yard) { y.Deals[1].Terms.Bales = 20 }, true},
		"a deal of 21 Bales":       {func(y *api.Yard) { y.Deals[1].Terms.Bales = 21 }, false},
		"a deal without a price":   {func(y *api.Yard) { y.Deals[0].Terms.Price = 0 }, false},
		"a deal of few grades":     {func(y *api.Yard) { y.Deals[0].Terms.Grades = ints(0, 0, 0, 0) }, false},
		"a fee that is too great":  {func(y *api.Yard) { y.Deals[1].Terms.Fee = 1001 }, false},
		"no ware":                  {func(y *api.Yard) { y.Wares = nil }, true},
		"seven wares":              {func(y *api.Yard) { *y = full(); y.Wares = append(y.Wares, ware(70, 1, 1, 1, 0)) }, false},
		"seven wares alone":        {func(y *api.Yard) { *y = even(nil, 1, 1, 1, 1, 1, 1, 1) }, false},
		"a ware twice":             {func(y *api.Yard) { y.Wares[1].Id = 10 }, false},
		"wares the wrong way":      {func(y *api.Yard) { slices.Reverse(y.Wares) }, false},
		"the ware 0":               {func(y *api.Yard) { y.Wares[0].Id = 0 }, false},
		"a ware below 0":           {func(y *api.Yard) { y.Wares[0].Id = math.MinInt }, false},
		"the wares 1 and 9999":     {func(y *api.Yard) { y.Wares[0].Id, y.Wares[2].Id = 1, 9999 }, true},
		"the ware 10000":           {func(y *api.Yard) { y.Wares[2].Id = 10000 }, false},
		"a great ware":             {func(y *api.Yard) { y.Wares[2].Id = math.MaxInt }, false},
		"a ware as a deal":         {func(y *api.Yard) { y.Wares[0].Id = 1 }, true},
		"all grades":               {func(y *api.Yard) { y.Wares[1].Grades = span(1, 9) }, true},
		"the grade 0":              {func(y *api.Yard) { y.Wares[1].Grades = span(0, 6) }, false},
		"the grade 10":             {func(y *api.Yard) { y.Wares[1].Grades = span(5, 10) }, false},
		"grades the wrong way":     {func(y *api.Yard) { y.Wares[1].Grades = span(6, 5) }, false},
		"great grades":             {func(y *api.Yard) { y.Wares[2].Grades = span(math.MinInt, math.MaxInt) }, false},
		"all staples":              {func(y *api.Yard) { y.Wares[1].Staples = span(1, 9) }, true},
		"the staple 0":             {func(y *api.Yard) { y.Wares[1].Staples = span(0, 6) }, false},
		"the staple 10":            {func(y *api.Yard) { y.Wares[1].Staples = span(5, 10) }, false},
		"staples the wrong way":    {func(y *api.Yard) { y.Wares[1].Staples = span(6, 5) }, false},
		"great staples":            {func(y *api.Yard) { y.Wares[0].Staples = span(math.MaxInt, math.MinInt) }, false},
		"a ware for nothing":       {func(y *api.Yard) { y.Wares[2].Pence = 0 }, true},
		"a ware below 0 pence":     {func(y *api.Yard) { y.Wares[2].Pence = -1 }, false},
		"a ware of 1000000 pence":  {func(y *api.Yard) { y.Wares[2].Pence = 1000000 }, true},
		"a ware of 1000001 pence":  {func(y *api.Yard) { y.Wares[0].Pence = 1000001 }, false},
		"a ware of great pence":    {func(y *api.Yard) { y.Wares[0].Pence = math.MaxInt }, false},
		"a ware of the least":      {func(y *api.Yard) { y.Wares[2].Pence = math.MinInt }, false},
		"a ware of no value there": {func(y *api.Yard) { y.Wares = []api.Ware{{Id: 1}} }, false},
	} {
		y := changed(x.change)
		want := api.OK
		if !x.valid {
			want = api.ErrYard
		}
		if e := deliver.Check(y); e != want {
			t.Error(name, e)
		}
		for _, c := range calls() {
			is, e := c.do(y, asks{ware: -1, deal: -1, plan: ints(-1)})
			if !x.valid && (e != api.ErrYard || !is) || x.valid && e == api.ErrYard {
				t.Error(name, c.name, is, e)
			}
		}
	}
}

// P5.1, R1, R2: errors in their order, with zero values.
func TestErrorsInOrder(t *testing.T) {
	for _, y := range []api.Yard{example(1, 1), example(2, 2), full(), broken()} {
		w := read(y)
		for _, c := range calls() {
			for _, x := range everyAsk() {
				want := api.ErrYard
				if !same(y, broken()) {
					want = wanted(c, x, y, w)
				}
				if is, e := c.do(y, x); e != want || e != api.OK && !is {
					t.Error(c.name, x, is, e, want)
				}
			}
		}
	}
}

// everyAsk returns arguments of which some are valid.
func everyAsk() []asks {
	var l []asks
	for _, w := range ints(10, 30, 60, 1, 0, -1, 10000, math.MinInt, math.MaxInt) {
		for _, d := range ints(1, 2, 5, 3, 10, 0, -1, math.MinInt, math.MaxInt) {
			for _, plan := range [][]int{ints(2, 1, 0), ints(1, 2, 0, 0, 0, 5), ints(0, 0, 2), ints(d, 0, 0), nil} {
				l = append(l, asks{w, d, plan, ware(w, 4, 5, 5, 0), deal(d, 1000, 6, 4, 1)})
			}
		}
	}
	return l
}

// wanted is the error of a call on a valid yard, by the sentences of P5.1 and those of the call.
func wanted(c call, x asks, y api.Yard, w words) api.Errno {
	i, j := slices.Index(wareIds(y), x.ware), slices.Index(dealIds(y), x.deal)
	_, isPlan := w.judge(x.plan)
	_, lack := w.lacks()
	for _, word := range strings.Fields(c.takes) {
		switch {
		case word == "ware" && i < 0, word == "deal" && j < 0, word == "pair" && w.pairs[i][j].known == api.KnownNo, word == "lack" && lack == 0:
			return api.ErrNone
		case word == "plan" && !isPlan:
			return api.ErrPlan
		case word == "put" && len(y.Wares) == api.MaxWares, word == "sign" && len(y.Deals) == api.MaxDeals:
			return api.ErrFull
		case word == "put" && (i >= 0 || x.ware < 1 || x.ware > api.MaxId):
			return api.ErrWare
		case word == "sign" && (j >= 0 || x.deal < 1 || x.deal > api.MaxId):
			return api.ErrDeal
		}
	}
	return api.OK
}
