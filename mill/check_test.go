package mill_test

import (
	"math"
	"slices"
	"strings"
	"testing"

	"middling/api"
	"middling/mill"
	"middling/testhelp"
)

// asks are the arguments of a call.
type asks struct {
	bale       int
	plan       []int
	far        int
	x          api.Cotton
	lots, size int
}

// call is one of the functions, for its errors: takes names what it can find amiss, in order; do tells whether all its other results are zero, with its error.
type call struct {
	name, takes string
	do          func(m api.Mill, x asks) (bool, api.Errno)
}

func noMill(m api.Mill, e api.Errno) (bool, api.Errno) { return same(m, api.Mill{}), e }

func noPair(a, b int, e api.Errno) (bool, api.Errno) { return a == 0 && b == 0, e }

func noRun(order []int, step int, e api.Errno) (bool, api.Errno) {
	return len(order) == 0 && step == 0, e
}

func calls() []call {
	return []call{
		{"Check", "", func(m api.Mill, x asks) (bool, api.Errno) { return true, mill.Check(m) }},
		{"Fit", "", func(m api.Mill, x asks) (bool, api.Errno) { return testhelp.NoList(mill.Fit(m)) }},
		{"Best", "few", func(m api.Mill, x asks) (bool, api.Errno) { return testhelp.NoList(mill.Best(m)) }},
		{"Even", "few", func(m api.Mill, x asks) (bool, api.Errno) { return noPair(mill.Even(m)) }},
		{"Judge", "plan", func(m api.Mill, x asks) (bool, api.Errno) { return noPair(mill.Judge(m, x.plan)) }},
		{"Lots", "plan", func(m api.Mill, x asks) (bool, api.Errno) { return testhelp.NoList(mill.Lots(m, x.plan)) }},
		{"Most", "far", func(m api.Mill, x asks) (bool, api.Errno) { return testhelp.Zero(mill.Most(m, x.far)) }},
		{"Swap", "plan swap", func(m api.Mill, x asks) (bool, api.Errno) { return noPair(mill.Swap(m, x.plan)) }},
		{"Helps", "put more", func(m api.Mill, x asks) (bool, api.Errno) { return noPair(mill.Helps(m, x.x)) }},
		{"Without", "bale less", func(m api.Mill, x asks) (bool, api.Errno) { return noPair(mill.Without(m, x.bale)) }},
		{"Needs", "few", func(m api.Mill, x asks) (bool, api.Errno) { return testhelp.NoList(mill.Needs(m)) }},
		{"Run", "plan", func(m api.Mill, x asks) (bool, api.Errno) { return noRun(mill.Run(m, x.plan)) }},
		{"Put", "put", func(m api.Mill, x asks) (bool, api.Errno) { return noMill(mill.Put(m, x.x)) }},
		{"Take", "bale", func(m api.Mill, x asks) (bool, api.Errno) { return noMill(mill.Take(m, x.bale)) }},
		{"Want", "want", func(m api.Mill, x asks) (bool, api.Errno) { return noMill(mill.Want(m, x.lots, x.size)) }},
	}
}

// kind is something that can be amiss with a mill, or not.
type kind struct {
	change func(m *api.Mill)
	valid  bool
}

// ofMills are kinds of mills by what they want, and by which bales there are.
func ofMills() map[string]kind {
	wants := func(lots, size int) func(m *api.Mill) {
		return func(m *api.Mill) { m.Lots, m.Size = lots, size }
	}
	last := func(id int) func(m *api.Mill) {
		return func(m *api.Mill) { m.Cottons[5].Bale.Id = id }
	}
	first := func(id int) func(m *api.Mill) {
		return func(m *api.Mill) { m.Cottons[0].Bale.Id = id }
	}
	return map[string]kind{
		"as it is":             {func(m *api.Mill) {}, true},
		"no value":             {func(m *api.Mill) { *m = api.Mill{} }, false},
		"no lot":               {wants(0, 2), false},
		"lots below 0":         {wants(-1, 2), false},
		"the least lots":       {wants(math.MinInt, 2), false},
		"one lot":              {wants(1, 2), true},
		"three lots":           {wants(3, 2), true},
		"four lots":            {wants(4, 2), false},
		"great lots":           {wants(math.MaxInt, 2), false},
		"lots of none":         {wants(1, 0), false},
		"lots of one":          {wants(1, 1), false},
		"lots below none":      {wants(1, math.MinInt), false},
		"lots of four":         {wants(1, 4), true},
		"the most of all":      {wants(3, 4), true},
		"lots of five":         {wants(1, 5), false},
		"lots of very many":    {wants(1, math.MaxInt), false},
		"no bale":              {func(m *api.Mill) { m.Cottons = nil }, true},
		"seven bales":          {func(m *api.Mill) { *m = full() }, true},
		"eight bales":          {func(m *api.Mill) { *m = line(1, 2, 1, 1, 1, 1, 1, 1, 1, 1) }, false},
		"very many bales":      {func(m *api.Mill) { *m = line(1, 2, slices.Repeat(ints(1), 9999)...) }, false},
		"a bale twice":         {last(5), false},
		"two twice":            {first(2), false},
		"bales the wrong way":  {func(m *api.Mill) { slices.Reverse(m.Cottons) }, false},
		"a bale too late":      {first(3), false},
		"the bale 0":           {first(0), false},
		"a bale below 0":       {first(math.MinInt), false},
		"the bale 9999":        {last(9999), true},
		"the bale 10000":       {last(10000), false},
		"a great bale":         {last(math.MaxInt), false},
		"a bale of no value":   {func(m *api.Mill) { m.Cottons[0] = api.Cotton{} }, false},
		"no value but an Id":   {func(m *api.Mill) { m.Cottons[0].Bale = api.Bale{Id: 1} }, false},
		"a bale of no layers":  {func(m *api.Mill) { m.Cottons[2].Bale.Layers = 0 }, false},
		"a bale of six layers": {func(m *api.Mill) { m.Cottons[5].Bale.Layers = 6 }, false},
		"five layers":          {func(m *api.Mill) { m.Cottons[5].Bale = blank(6, 5) }, true},
		"a bale of no weight":  {func(m *api.Mill) { m.Cottons[3].Bale.Dry = span(0, 9) }, false},
		"weights that fall":    {func(m *api.Mill) { m.Cottons[3].Bale.Dry = span(9, 8) }, false},
		"a draw of no number":  {func(m *api.Mill) { m.Cottons[4].Bale.Draws[0].Number = 0 }, false},
		"a draw of no layer":   {func(m *api.Mill) { m.Cottons[4].Bale.Draws[1].Layer = 2 }, false},
		"a draw of no grade":   {func(m *api.Mill) { m.Cottons[4].Bale.Draws[1].Grade = span(0, 3) }, false},
		"a weighing":           {func(m *api.Mill) { m.Cottons[1].Bale = weighed(2) }, true},
		"a bad weighing": {func(m *api.Mill) {
			m.Cottons[1].Bale = weighed(2)
			m.Cottons[1].Bale.Weighs[0].Pounds = 0
		}, false},
		"draws that are false":     {func(m *api.Mill) { m.Cottons[0].Bale = torn(1) }, true},
		"weighings that are false": {func(m *api.Mill) { m.Cottons[0].Bale = light(1) }, true},
	}
}

// ofCottons are kinds of mills by how long and how strong bales are.
func ofCottons() map[string]kind {
	length := func(at, n int) func(m *api.Mill) { return func(m *api.Mill) { m.Cottons[at].Length = n } }
	strength := func(at, n int) func(m *api.Mill) { return func(m *api.Mill) { m.Cottons[at].Strength = n } }
	return map[string]kind{
		"the length 0":           {length(0, 0), false},
		"a length below 0":       {length(5, -1), false},
		"the least length":       {length(5, math.MinInt), false},
		"the length 1":           {length(0, 1), true},
		"the length 60":          {length(5, 60), true},
		"the length 61":          {length(5, 61), false},
		"a great length":         {length(2, math.MaxInt), false},
		"the strength 0":         {strength(0, 0), false},
		"a strength below 0":     {strength(5, -1), false},
		"the least strength":     {strength(5, math.MinInt), false},
		"the strength 1":         {strength(0, 1), true},
		"the strength 200":       {strength(5, 200), true},
		"the strength 201":       {strength(5, 201), false},
		"a great strength":       {strength(2, math.MaxInt), false},
		"as long as it is weak":  {func(m *api.Mill) { m.Cottons[0].Length, m.Cottons[0].Strength = 60, 1 }, true},
		"too long, and unfit":    {length(5, 100), false},
		"as strong as a long is": {func(m *api.Mill) { m.Cottons[0].Length, m.Cottons[0].Strength = 1, 61 }, true},
	}
}

// P9.1, R5, R6: what is a mill, and what is not.
func TestCheck(t *testing.T) {
	for _, kinds := range []map[string]kind{ofMills(), ofCottons()} {
		for name, x := range kinds {
			m := changed(x.change)
			want := api.OK
			if !x.valid {
				want = api.ErrMill
			}
			if e := mill.Check(m); e != want {
				t.Error(name, e)
			}
			for _, f := range calls() {
				is, e := f.do(m, asks{bale: -1, plan: ints(-1), far: -1})
				if !x.valid && (e != api.ErrMill || !is) || x.valid && e == api.ErrMill {
					t.Error(name, f.name, is, e)
				}
			}
		}
	}
}

// P9.1, R1, R2: errors in their order, with zero values.
func TestErrorsInOrder(t *testing.T) {
	met := map[string]int{}
	for _, m := range []api.Mill{example(1), example(2), example(3), full(), line(1, 2), line(1, 2, 5), broken()} {
		w := read(m)
		for _, f := range calls() {
			for _, x := range everyAsk() {
				want := api.ErrMill
				if !same(m, broken()) {
					want = wanted(f, x, w)
				}
				if is, e := f.do(m, x); e != want || e != api.OK && !is {
					t.Fatal(f.name, m, x, is, e, want)
				}
				met[f.name+want.Error()]++
			}
		}
	}
	for _, f := range calls() {
		for _, word := range strings.Fields(f.takes) {
			for _, e := range append(errorsOf(word), api.OK, api.ErrMill) {
				if met[f.name+e.Error()] < 3 {
					t.Error(f.name, e)
				}
			}
		}
	}
}

// errorsOf returns the errors that one of the words that a call takes can lead to.
func errorsOf(word string) []api.Errno {
	return map[string][]api.Errno{
		"few":  {api.ErrFew},
		"more": {api.ErrFew},
		"less": {api.ErrFew},
		"plan": {api.ErrSplit},
		"far":  {api.ErrArg},
		"swap": {api.ErrNone},
		"bale": {api.ErrNone},
		"put":  {api.ErrFull, api.ErrCotton},
		"want": {api.ErrWant},
	}[word]
}

// everyAsk returns arguments of which some are valid.
func everyAsk() []asks {
	var l []asks
	for _, n := range ints(1, 2, 3, 6, 7, 0, -1, 9999, 10000, math.MinInt, math.MaxInt) {
		for _, plan := range [][]int{ints(0, 1, 1, 2, 2, 0), ints(1, 1, 0, 2, 2, 0), ints(0, 0, 0, 1, 1, 0), ints(1, 0, 0, 0, 1, 0), ints(1, 2, 1, 3, 2, 3, 0), ints(0, 1, 2, 3, 1, 2, 3), ints(n, n, 0, 0, 0, 0), nil} {
			l = append(l, asks{n, plan, n, cotton(n, 30, 80), n, 2}, asks{n, plan, n - 2, api.Cotton{Bale: two(n), Length: 30, Strength: 80}, 1, n}, asks{n, plan, 0, cotton(8, n, 80), 3, 4}, asks{n, plan, 0, cotton(8, 30, n), 4, 5})
		}
	}
	return l
}

// wanted is the error of a call on a valid mill, by the sentences of P9.1 and those of the call.
func wanted(f call, x asks, w words) api.Errno {
	isCotton := x.x.Bale.Id > 0 && x.x.Bale.Id <= 9999 && !slices.Contains(ids(w.Mill), x.x.Bale.Id) && x.x.Length > 0 && x.x.Length <= 60 && x.x.Strength > 0 && x.x.Strength <= 200
	at := slices.Index(ids(w.Mill), x.bale)
	fit := 0
	for _, is := range w.fit {
		if is {
			fit++
		}
	}
	for _, word := range strings.Fields(f.takes) {
		switch {
		case word == "few" && len(w.plans) == 0, word == "less" && len(w.without(at).plans) == 0, word == "more" && fit+helping(x.x.Bale) < w.Lots*w.Size:
			return api.ErrFew
		case word == "plan" && !w.allows(x.plan):
			return api.ErrSplit
		case word == "far" && x.far < 0:
			return api.ErrArg
		case word == "bale" && at < 0:
			return api.ErrNone
		case word == "put" && len(w.Cottons) == 7:
			return api.ErrFull
		case word == "put" && !isCotton:
			return api.ErrCotton
		case word == "want" && (x.lots < 1 || x.lots > 3 || x.size < 2 || x.size > 4):
			return api.ErrWant
		case word == "swap":
			if _, _, ok := w.swap(x.plan); !ok {
				return api.ErrNone
			}
		}
	}
	return api.OK
}

// helping is how many bales that are fit there are more with one.
func helping(b api.Bale) int {
	if isFit(b) {
		return 1
	}
	return 0
}
