package paper_test

import (
	"math"
	"slices"
	"strings"
	"testing"

	"middling/api"
	"middling/paper"
	"middling/testhelp"
)

// asks are the arguments of a call.
type asks struct {
	paper, house, day, pass, pledge, other int
	put                                    api.Pass
	lend                                   api.Pledge
	issue                                  api.Paper
	numbers                                []int
}

// call is one of the functions, for its errors: takes names what it can find amiss, in order; do tells whether all its other results are zero, with its error.
type call struct {
	name, takes string
	do          func(p api.Papers, x asks) (bool, api.Errno)
}

func noPapers(p api.Papers, e api.Errno) (bool, api.Errno) { return same(p, api.Papers{}), e }

func calls() []call {
	return []call{
		{"Check", "", func(p api.Papers, x asks) (bool, api.Errno) { return true, paper.Check(p) }},
		{"Can", "", func(p api.Papers, x asks) (bool, api.Errno) { return testhelp.Zero(paper.Can(p)) }},
		{"Orders", "paper truth", func(p api.Papers, x asks) (bool, api.Errno) { return testhelp.NoList(paper.Orders(p, x.paper)) }},
		{"Holder", "paper day truth", func(p api.Papers, x asks) (bool, api.Errno) { return testhelp.NoList(paper.Holder(p, x.paper, x.day)) }},
		{"Known", "paper day truth", func(p api.Papers, x asks) (bool, api.Errno) {
			return testhelp.Zero(paper.Known(p, x.paper, x.house, x.day))
		}},
		{"When", "pass truth", func(p api.Papers, x asks) (bool, api.Errno) { return testhelp.Zero(paper.When(p, x.pass)) }},
		{"Holds", "day truth", func(p api.Papers, x asks) (bool, api.Errno) { return testhelp.Zero(paper.Holds(p, x.house, x.day)) }},
		{"Good", "pledge truth", func(p api.Papers, x asks) (bool, api.Errno) { return testhelp.Zero(paper.Good(p, x.pledge)) }},
		{"Twice", "paper truth", func(p api.Papers, x asks) (bool, api.Errno) { return testhelp.Zero(paper.Twice(p, x.paper)) }},
		{"Since", "paper truth twice", func(p api.Papers, x asks) (bool, api.Errno) { return testhelp.Zero(paper.Since(p, x.paper)) }},
		{"Bank", "paper day truth", func(p api.Papers, x asks) (bool, api.Errno) { return testhelp.NoList(paper.Bank(p, x.paper, x.day)) }},
		{"Rank", "pledge other truth both", func(p api.Papers, x asks) (bool, api.Errno) {
			return testhelp.Zero(paper.Rank(p, x.pledge, x.other))
		}},
		{"Wrong", "many", func(p api.Papers, x asks) (bool, api.Errno) { return testhelp.NoList(paper.Wrong(p)) }},
		{"Put", "put", func(p api.Papers, x asks) (bool, api.Errno) { return noPapers(paper.Put(p, x.put)) }},
		{"Lend", "lend", func(p api.Papers, x asks) (bool, api.Errno) { return noPapers(paper.Lend(p, x.lend)) }},
		{"Issue", "issue", func(p api.Papers, x asks) (bool, api.Errno) { return noPapers(paper.Issue(p, x.issue)) }},
		{"Strike", "numbers", func(p api.Papers, x asks) (bool, api.Errno) { return noPapers(paper.Strike(p, x.numbers)) }},
	}
}

// kind is something that can be amiss with papers, or not.
type kind struct {
	change func(p *api.Papers)
	valid  bool
}

// ofPapers are kinds of papers by their days, and by the papers themselves.
func ofPapers() map[string]kind {
	return map[string]kind{
		"as they are":               {func(p *api.Papers) {}, true},
		"no value":                  {func(p *api.Papers) { *p = api.Papers{} }, false},
		"days alone":                {func(p *api.Papers) { *p = api.Papers{Days: 1} }, true},
		"full":                      {func(p *api.Papers) { *p = full() }, true},
		"without a truth":           {func(p *api.Papers) { *p = odd() }, true},
		"no day":                    {func(p *api.Papers) { *p = api.Papers{Days: 0, Papers: p.Papers} }, false},
		"days below 0":              {func(p *api.Papers) { p.Days = math.MinInt }, false},
		"ten days":                  {func(p *api.Papers) { p.Days = 10 }, true},
		"eleven days":               {func(p *api.Papers) { p.Days = 11 }, false},
		"eleven days alone":         {func(p *api.Papers) { *p = api.Papers{Days: 11} }, false},
		"great days":                {func(p *api.Papers) { p.Days = math.MaxInt }, false},
		"no paper":                  {func(p *api.Papers) { p.Papers = nil }, false},
		"no paper, none that is of": {func(p *api.Papers) { p.Papers, p.Passes, p.Pledges = nil, nil, nil }, true},
		"three papers":              {func(p *api.Papers) { p.Papers = append(p.Papers, sheet(3, 1, 1)) }, true},
		"four papers":               {func(p *api.Papers) { p.Papers = append(p.Papers, sheet(3, 1, 1), sheet(4, 1, 1)) }, false},
		"a paper twice":             {func(p *api.Papers) { p.Papers = append(p.Papers, sheet(2, 1, 1)) }, false},
		"papers the wrong way":      {func(p *api.Papers) { slices.Reverse(p.Papers) }, false},
		"the paper 0":               {func(p *api.Papers) { *p = gone(1); p.Papers[0].Id = 0 }, false},
		"a paper below 0":           {func(p *api.Papers) { *p = gone(1); p.Papers[0].Id = math.MinInt }, false},
		"the paper 9999":            {func(p *api.Papers) { *p = gone(1); p.Papers[0].Id = 9999 }, true},
		"the paper 10000":           {func(p *api.Papers) { *p = gone(1); p.Papers[0].Id = 10000 }, false},
		"a great paper":             {func(p *api.Papers) { *p = gone(1); p.Papers[0].Id = math.MaxInt }, false},
		"the bale 0":                {func(p *api.Papers) { p.Papers[1].Bale = 0 }, false},
		"a bale below 0":            {func(p *api.Papers) { p.Papers[1].Bale = math.MinInt }, false},
		"the bale 9999":             {func(p *api.Papers) { p.Papers[1].Bale = 9999 }, true},
		"the bale 10000":            {func(p *api.Papers) { p.Papers[1].Bale = 10000 }, false},
		"one bale for both":         {func(p *api.Papers) { p.Papers[1].Bale = 10 }, true},
		"no holder":                 {func(p *api.Papers) { p.Papers[0].Holder = 0 }, false},
		"a holder below 0":          {func(p *api.Papers) { p.Papers[0].Holder = -1 }, false},
		"the holder 9999":           {func(p *api.Papers) { p.Papers[1].Holder = 9999 }, true},
		"the holder 10000":          {func(p *api.Papers) { p.Papers[0].Holder = 10000 }, false},
		"a great holder":            {func(p *api.Papers) { p.Papers[0].Holder = math.MaxInt }, false},
	}
}

// ofPasses are kinds of papers by their passes.
func ofPasses() map[string]kind {
	return map[string]kind{
		"no pass": {func(p *api.Papers) { p.Passes = nil }, true},
		"nine passes": {func(p *api.Papers) {
			*p = full()
			p.Passes = slices.Insert(p.Passes, 7, pass(20, 9999, 1, 2, 0, 0))
		}, false},
		"eight passes": {func(p *api.Papers) {
			*p = full()
			p.Passes[7] = pass(20, 9999, 1, 2, 0, 0)
		}, true},
		"six passes of a paper": {func(p *api.Papers) {
			p.Passes = append(p.Passes[3:], pass(7, 2, 6, 7, 0, 5), pass(8, 2, 6, 7, 0, 5), pass(9, 2, 6, 7, 0, 5))
		}, false},
		"five passes of a paper": {func(p *api.Papers) { p.Passes = append(p.Passes[3:], pass(7, 2, 6, 7, 0, 5), pass(8, 2, 6, 7, 0, 5)) }, true},
		"the pass 0":             {func(p *api.Papers) { p.Passes[0].Number = 0 }, false},
		"a pass below 0":         {func(p *api.Papers) { p.Passes[0].Number = math.MinInt }, false},
		"a pass twice":           {func(p *api.Papers) { p.Passes[1].Number = 1 }, false},
		"passes the wrong way":   {func(p *api.Papers) { slices.Reverse(p.Passes) }, false},
		"the pass 9999":          {func(p *api.Papers) { p.Passes[5].Number = 9999 }, true},
		"the pass 10000":         {func(p *api.Papers) { p.Passes[5].Number = 10000 }, false},
		"a great pass":           {func(p *api.Papers) { p.Passes[5].Number = math.MaxInt }, false},
		"a pass of no paper":     {func(p *api.Papers) { p.Passes[0].Paper = 3 }, false},
		"a pass of the paper 0":  {func(p *api.Papers) { p.Passes[0].Paper = 0 }, false},
		"from 0":                 {func(p *api.Papers) { p.Passes[0].From = 0 }, false},
		"from below 0":           {func(p *api.Papers) { p.Passes[0].From = math.MinInt }, false},
		"from 9999":              {func(p *api.Papers) { p.Passes[0].From = 9999 }, true},
		"from 10000":             {func(p *api.Papers) { p.Passes[0].From = 10000 }, false},
		"to 0":                   {func(p *api.Papers) { p.Passes[0].To = 0 }, false},
		"to below 0":             {func(p *api.Papers) { p.Passes[0].To = -1 }, false},
		"to 9999":                {func(p *api.Papers) { p.Passes[0].To = 9999 }, true},
		"to 10000":               {func(p *api.Papers) { p.Passes[0].To = 10000 }, false},
		"to the same":            {func(p *api.Papers) { p.Passes[0].To = 5 }, false},
		"from the same":          {func(p *api.Papers) { p.Passes[5].From = 7 }, false},
		"on 0 to 5":              {func(p *api.Papers) { p.Passes[0].When = span(0, 5) }, true},
		"on 0 to 6":              {func(p *api.Papers) { p.Passes[0].When = span(0, 6) }, false},
		"on -1 to 5":             {func(p *api.Papers) { p.Passes[0].When = span(-1, 5) }, false},
		"on 6":                   {func(p *api.Papers) { p.Passes[5].When = span(6, 6) }, false},
		"on 5 to 4":              {func(p *api.Papers) { p.Passes[5].When = span(5, 4) }, false},
		"on all days there are":  {func(p *api.Papers) { p.Passes[5].When = span(math.MinInt, math.MaxInt) }, false},
		"no value for a pass":    {func(p *api.Papers) { p.Passes[0] = api.Pass{} }, false},
	}
}

// ofPledges are kinds of papers by their pledges.
func ofPledges() map[string]kind {
	return map[string]kind{
		"no pledge": {func(p *api.Papers) { p.Pledges = nil }, true},
		"seven pledges": {func(p *api.Papers) {
			*p = full()
			p.Pledges = append(p.Pledges[:5], pledge(30, 9999, 1, 9, span(0, 0), span(0, 0)), pledge(40, 9999, 1, 9, span(0, 0), span(0, 0)))
		}, false},
		"six pledges": {func(p *api.Papers) {
			*p = full()
			p.Pledges[5] = pledge(30, 9999, 1, 9, span(0, 0), span(0, 0))
		}, true},
		"four pledges of a paper":   {func(p *api.Papers) { *p = lent(term(0, 0, 0, 0), term(0, 0, 0, 0), term(0, 0, 0, 0), term(0, 0, 0, 0)) }, false},
		"three pledges of a paper":  {func(p *api.Papers) { *p = lent(term(0, 0, 0, 0), term(0, 0, 0, 0), term(0, 0, 0, 0)) }, true},
		"the pledge 0":              {func(p *api.Papers) { p.Pledges[0].Number = 0 }, false},
		"a pledge below 0":          {func(p *api.Papers) { p.Pledges[0].Number = math.MinInt }, false},
		"a pledge twice":            {func(p *api.Papers) { p.Pledges[1].Number = 1 }, false},
		"pledges the wrong way":     {func(p *api.Papers) { slices.Reverse(p.Pledges) }, false},
		"the pledge 9999":           {func(p *api.Papers) { p.Pledges[2].Number = 9999 }, true},
		"the pledge 10000":          {func(p *api.Papers) { p.Pledges[2].Number = 10000 }, false},
		"a great pledge":            {func(p *api.Papers) { p.Pledges[2].Number = math.MaxInt }, false},
		"a pledge of no paper":      {func(p *api.Papers) { p.Pledges[0].Paper = 3 }, false},
		"a pledge of the paper 0":   {func(p *api.Papers) { p.Pledges[0].Paper = 0 }, false},
		"by 0":                      {func(p *api.Papers) { p.Pledges[0].By = 0 }, false},
		"by below 0":                {func(p *api.Papers) { p.Pledges[0].By = math.MinInt }, false},
		"by 9999":                   {func(p *api.Papers) { p.Pledges[0].By = 9999 }, true},
		"by 10000":                  {func(p *api.Papers) { p.Pledges[0].By = 10000 }, false},
		"the bank 0":                {func(p *api.Papers) { p.Pledges[0].Bank = 0 }, false},
		"a bank below 0":            {func(p *api.Papers) { p.Pledges[0].Bank = -1 }, false},
		"the bank 9999":             {func(p *api.Papers) { p.Pledges[0].Bank = 9999 }, true},
		"the bank 10000":            {func(p *api.Papers) { p.Pledges[0].Bank = 10000 }, false},
		"a bank that pledges":       {func(p *api.Papers) { p.Pledges[0].Bank = 7 }, true},
		"from 0 to 5":               {func(p *api.Papers) { p.Pledges[0].From = span(0, 5) }, true},
		"from 0 to 6":               {func(p *api.Papers) { p.Pledges[0].From = span(0, 6) }, false},
		"from -1 to 5":              {func(p *api.Papers) { p.Pledges[0].From = span(-1, 5) }, false},
		"from 5 to 4":               {func(p *api.Papers) { p.Pledges[0].From = span(5, 4) }, false},
		"from all days there are":   {func(p *api.Papers) { p.Pledges[0].From = span(math.MinInt, math.MaxInt) }, false},
		"until 0 to 5":              {func(p *api.Papers) { p.Pledges[0].Until = span(0, 5) }, true},
		"until 4":                   {func(p *api.Papers) { p.Pledges[0].Until = span(4, 4) }, true},
		"until 3, before it is":     {func(p *api.Papers) { p.Pledges[0].Until = span(0, 3) }, false},
		"until 0 to 6":              {func(p *api.Papers) { p.Pledges[0].Until = span(0, 6) }, false},
		"until -1 to 5":             {func(p *api.Papers) { p.Pledges[0].Until = span(-1, 5) }, false},
		"until 5 to 4":              {func(p *api.Papers) { p.Pledges[0].Until = span(5, 4) }, false},
		"until all days there are":  {func(p *api.Papers) { p.Pledges[0].Until = span(math.MinInt, math.MaxInt) }, false},
		"until the first day of it": {func(p *api.Papers) { p.Pledges[0].From, p.Pledges[0].Until = span(3, 5), span(0, 3) }, true},
		"until a day before it":     {func(p *api.Papers) { p.Pledges[0].From, p.Pledges[0].Until = span(4, 5), span(0, 3) }, false},
		"no value for a pledge":     {func(p *api.Papers) { p.Pledges[0] = api.Pledge{} }, false},
	}
}

// P7.1, R5, R6: what are papers, and what are not.
func TestCheck(t *testing.T) {
	for _, kinds := range []map[string]kind{ofPapers(), ofPasses(), ofPledges()} {
		for name, x := range kinds {
			p := changed(x.change)
			want := api.OK
			if !x.valid {
				want = api.ErrPapers
			}
			if e := paper.Check(p); e != want {
				t.Error(name, e)
			}
			for _, f := range calls() {
				is, e := f.do(p, asks{paper: -1, day: -1, pass: -1, pledge: -1, other: -1, numbers: ints(-1)})
				if !x.valid && (e != api.ErrPapers || !is) || x.valid && e == api.ErrPapers {
					t.Error(name, f.name, is, e)
				}
			}
		}
	}
}

// P7.1, R1, R2: errors in their order, with zero values.
func TestErrorsInOrder(t *testing.T) {
	met := map[string]int{}
	for _, p := range []api.Papers{example(), odd(), full(), lent(term(1, 2, 3, 4), term(5, 5, 5, 9)), many(), {Days: 1}, broken()} {
		for _, f := range calls() {
			for _, x := range everyAsk() {
				want := api.ErrPapers
				if !same(p, broken()) {
					want = wanted(f, x, p)
				}
				if is, e := f.do(p, x); e != want || e != api.OK && !is {
					t.Fatal(f.name, p, x, is, e, want)
				}
				met[f.name+want.Error()]++
			}
		}
	}
	for _, f := range calls() {
		for _, word := range strings.Fields(f.takes) {
			for _, e := range append(errorsOf(word), api.OK, api.ErrPapers) {
				if met[f.name+e.Error()] < 3 {
					t.Error(f.name, e)
				}
			}
		}
	}
}

// errorsOf returns the errors that one of the words that a call takes can lead to.
func errorsOf(word string) []api.Errno {
	switch word {
	case "paper", "pass", "pledge", "other", "twice":
		return []api.Errno{api.ErrNone}
	case "day":
		return []api.Errno{api.ErrTerm}
	case "truth":
		return []api.Errno{api.ErrBad}
	case "both":
		return []api.Errno{api.ErrArg}
	case "many":
		return []api.Errno{api.ErrMany}
	case "put":
		return []api.Errno{api.ErrFull, api.ErrPass}
	case "lend":
		return []api.Errno{api.ErrFull, api.ErrPledge}
	case "issue":
		return []api.Errno{api.ErrFull, api.ErrPaper}
	}
	return []api.Errno{api.ErrPass}
}

// many needs four passes to be struck.
func many() api.Papers {
	return gone(3, pass(1, 4, 6, 7, 0, 0), pass(2, 4, 7, 8, 0, 0), pass(3, 4, 8, 9, 0, 0), pass(5, 4, 9, 8, 0, 0))
}

// everyAsk returns arguments of which some are valid.
func everyAsk() []asks {
	var l []asks
	odd := ints(0, -1, 10000, math.MinInt, math.MaxInt)
	for _, a := range append(ints(1, 2, 4, 9999), odd...) {
		for _, b := range append(ints(1, 2, 3, 5, 6, 9), odd...) {
			for _, numbers := range [][]int{nil, ints(1), ints(1, 3, 5), ints(3, 1), ints(1, 1), ints(b), ints(1, 2, 3, 4, 5, 6, 7, 8, 9, 10)} {
				l = append(l, asks{a, b, b, a, a, b, pass(8, a, 1, b, 0, 0), pledge(8, a, 1, b, span(0, 0), span(0, 0)), sheet(8, a, b), numbers})
			}
			l = append(l, asks{a, b, b, b, b, a, pass(a, 1, a, 2, 0, b), pledge(a, 1, b, 1, span(0, 5), span(b, 5)), sheet(a, 1, b), nil})
			l = append(l, asks{a, b, b, b, b, a, pass(b, 4, 5, 6, b, 0), pledge(b, 4, 5, 6, span(b, 5), span(0, 3)), sheet(b, 1, 1), nil})
		}
	}
	return l
}

func isId(l ...int) bool {
	return !slices.ContainsFunc(l, func(n int) bool { return n < 1 || n > 9999 })
}

func isDays(p api.Papers, l ...api.Span) bool {
	return !slices.ContainsFunc(l, func(s api.Span) bool { return s.Lo < 0 || s.Hi < s.Lo || s.Hi >= p.Days })
}

func passFits(p api.Papers, x api.Pass) bool {
	n := 0
	for _, y := range p.Passes {
		if y.Paper == x.Paper {
			n++
		}
	}
	return n < 5 && isId(x.Number, x.From, x.To) && x.From != x.To && isDays(p, x.When) && slices.Contains(sheets(p), x.Paper) && !slices.Contains(passes(p), x.Number)
}

func pledgeFits(p api.Papers, x api.Pledge) bool {
	n := 0
	for _, y := range p.Pledges {
		if y.Paper == x.Paper {
			n++
		}
	}
	return n < 3 && isId(x.Number, x.By, x.Bank) && isDays(p, x.From, x.Until) && x.From.Lo <= x.Until.Hi && slices.Contains(sheets(p), x.Paper) && !slices.Contains(pledges(p), x.Number)
}

func sheetFits(p api.Papers, x api.Paper) bool {
	return isId(x.Id, x.Bale, x.Holder) && !slices.Contains(sheets(p), x.Id)
}

// more is the error of a call for one thing more, by whether there is room for it, and whether it fits.
func more(room, fits bool, e api.Errno) api.Errno {
	switch {
	case !room:
		return api.ErrFull
	case !fits:
		return e
	}
	return api.OK
}

// wanted is the error of a call on valid papers, by the sentences of P7.1 and those of the call.
func wanted(f call, x asks, p api.Papers) api.Errno {
	for _, word := range strings.Fields(f.takes) {
		if e := amiss(word, x, p); e != api.OK {
			return e
		}
	}
	return api.OK
}

// amiss is the error of one of the words that a call takes.
func amiss(word string, x asks, p api.Papers) api.Errno {
	switch word {
	case "put":
		return more(len(p.Passes) < 8, passFits(p, x.put), api.ErrPass)
	case "lend":
		return more(len(p.Pledges) < 6, pledgeFits(p, x.lend), api.ErrPledge)
	case "issue":
		return more(len(p.Papers) < 3, sheetFits(p, x.issue), api.ErrPaper)
	}
	for _, y := range []struct {
		word string
		is   func() bool
		e    api.Errno
	}{
		{"paper", func() bool { return slices.Contains(sheets(p), x.paper) }, api.ErrNone},
		{"pass", func() bool { return slices.Contains(passes(p), x.pass) }, api.ErrNone},
		{"pledge", func() bool { return slices.Contains(pledges(p), x.pledge) }, api.ErrNone},
		{"other", func() bool { return slices.Contains(pledges(p), x.other) }, api.ErrNone},
		{"day", func() bool { return x.day >= 0 && x.day < p.Days }, api.ErrTerm},
		{"truth", func() bool { return !same(p, odd()) && !same(p, many()) }, api.ErrBad},
		// Of those that are asked here the paper 1 has pledges that can meet, and the paper 2 of full has none.
		{"twice", func() bool { return x.paper == 1 }, api.ErrNone},
		{"both", func() bool { return x.pledge != x.other && paperOf(p, x.pledge) == paperOf(p, x.other) }, api.ErrArg},
		{"many", func() bool { return !same(p, many()) }, api.ErrMany},
		{"numbers", func() bool { return areNumbers(p, x.numbers) }, api.ErrPass},
	} {
		if y.word == word && !y.is() {
			return y.e
		}
	}
	return api.OK
}

// paperOf returns the paper of a pledge.
func paperOf(p api.Papers, number int) int {
	return p.Pledges[slices.Index(pledges(p), number)].Paper
}

// areNumbers tells whether numbers are those of passes, in increasing order, no one twice.
func areNumbers(p api.Papers, l []int) bool {
	for i, n := range l {
		if i > 0 && n <= l[i-1] || !slices.Contains(passes(p), n) {
			return false
		}
	}
	return true
}

// P7.1: without a truth these answer all the same.
func TestNoTruth(t *testing.T) {
	p := odd()
	if is, e := paper.Can(p); is || e != api.OK {
		t.Error(is, e)
	}
	if y, e := paper.Put(p, pass(8, 1, 1, 2, 0, 0)); len(y.Passes) != 8 || e != api.OK {
		t.Error(y, e)
	}
	if y, e := paper.Lend(p, pledge(8, 1, 1, 2, span(0, 0), span(0, 0))); len(y.Pledges) != 4 || e != api.OK {
		t.Error(y, e)
	}
	if y, e := paper.Issue(p, sheet(8, 1, 1)); len(y.Papers) != 3 || e != api.OK {
		t.Error(y, e)
	}
	if y, e := paper.Strike(p, ints(7)); !same(y, example()) || e != api.OK {
		t.Error(y, e)
	}
	if l, e := paper.Wrong(p); !slices.Equal(l, ints(7)) || e != api.OK {
		t.Error(l, e)
	}
}
