package core_test

import (
	"math"
	"slices"
	"testing"

	"middling/api"
	"middling/core"
	"middling/testhelp"
)

// asks are the arguments of a call.
type asks struct{ at, kind, number, damp int }

// call is one of the functions, for its errors: do tells whether all its other results are zero, with its error.
type call struct {
	name                             string
	layer, kind, number, damp, truth bool
	do                               func(b api.Bale, x asks) (bool, api.Errno)
}

func noBale(b api.Bale, e api.Errno) (bool, api.Errno) { return zero(b), e }

func calls() []call {
	return append(freeCalls(), []call{
		{"Layer", true, false, false, false, true, func(b api.Bale, x asks) (bool, api.Errno) { return testhelp.Zero(core.Layer(b, x.at)) }},
		{"Best", false, false, false, false, true, func(b api.Bale, x asks) (bool, api.Errno) { return testhelp.Zero(core.Best(b)) }},
		{"Worst", false, false, false, false, true, func(b api.Bale, x asks) (bool, api.Errno) { return testhelp.Zero(core.Worst(b)) }},
		{"Kind", false, true, false, false, true, func(b api.Bale, x asks) (bool, api.Errno) { return testhelp.Zero(core.Kind(b, x.kind)) }},
		{"Cut", false, false, false, false, true, func(b api.Bale, x asks) (bool, api.Errno) { return testhelp.Zero(core.Cut(b)) }},
		{"Ask", false, false, false, false, true, func(b api.Bale, x asks) (bool, api.Errno) {
			at, n, e := core.Ask(b)
			return at == 0 && n == 0, e
		}},
		{"Decide", false, false, false, false, true, func(b api.Bale, x asks) (bool, api.Errno) {
			l, e := core.Decide(b)
			return len(l) == 0, e
		}},
		{"Dry", false, false, false, false, true, func(b api.Bale, x asks) (bool, api.Errno) { return testhelp.Zero(core.Dry(b)) }},
		{"Wet", false, false, true, false, true, func(b api.Bale, x asks) (bool, api.Errno) { return testhelp.Zero(core.Wet(b, x.number)) }},
		{"Known", false, false, true, false, true, func(b api.Bale, x asks) (bool, api.Errno) { return testhelp.Zero(core.Known(b, x.number, x.damp)) }},
		{"Pays", false, false, false, true, true, func(b api.Bale, x asks) (bool, api.Errno) { return testhelp.Zero(core.Pays(b, x.damp)) }},
		{"Aside", false, false, false, true, true, func(b api.Bale, x asks) (bool, api.Errno) { return testhelp.Zero(core.Aside(b, x.damp)) }},
	}...)
}

// freeCalls are those that answer without a truth too.
func freeCalls() []call {
	return []call{
		{"Check", false, false, false, false, false, func(b api.Bale, x asks) (bool, api.Errno) { return true, core.Check(b) }},
		{"Can", false, false, false, false, false, func(b api.Bale, x asks) (bool, api.Errno) { return testhelp.Zero(core.Can(b)) }},
		{"Wrong", false, false, false, false, false, func(b api.Bale, x asks) (bool, api.Errno) {
			l, k, e := core.Wrong(b)
			return len(l) == 0 && len(k) == 0, e
		}},
		{"Put", false, false, false, false, false, func(b api.Bale, x asks) (bool, api.Errno) { return noBale(core.Put(b, draw(9, 0, 1, 9))) }},
		{"Weighed", false, false, false, false, false, func(b api.Bale, x asks) (bool, api.Errno) { return noBale(core.Weighed(b, weigh(9, 1, 0, 0))) }},
		{"Strike", false, false, false, false, false, func(b api.Bale, x asks) (bool, api.Errno) { return noBale(core.Strike(b, nil, nil)) }},
	}
}

// manyDraws are draws that say nothing of the layer 2, with the Numbers 10, 20, and so on.
func manyDraws(n int) []api.Draw {
	var l []api.Draw
	for i := range n {
		l = append(l, draw(10*i+10, 2, 1, 9))
	}
	return l
}

// manyWeighs are weighings that say little, numbered alike.
func manyWeighs(n int) []api.Weigh {
	var l []api.Weigh
	for i := range n {
		l = append(l, weigh(10*i+10, 470, 0, 200))
	}
	return l
}

// P3.1, R5, R6: what is a bale, and what is none.
func TestCheck(t *testing.T) {
	for name, x := range map[string]struct {
		change func(b *api.Bale)
		valid  bool
	}{
		"as it is":                 {func(b *api.Bale) {}, true},
		"the least":                {func(b *api.Bale) { *b = api.Bale{Id: 1, Layers: 1, Dry: span(1, 1)} }, true},
		"no value":                 {func(b *api.Bale) { *b = api.Bale{} }, false},
		"Id 0":                     {func(b *api.Bale) { b.Id = 0 }, false},
		"Id below 0":               {func(b *api.Bale) { b.Id = math.MinInt }, false},
		"Id 9999":                  {func(b *api.Bale) { b.Id = 9999 }, true},
		"Id 10000":                 {func(b *api.Bale) { b.Id = 10000 }, false},
		"no layer":                 {func(b *api.Bale) { b.Layers, b.Draws = 0, nil }, false},
		"layers below 0":           {func(b *api.Bale) { b.Layers, b.Draws = -1, nil }, false},
		"five layers":              {func(b *api.Bale) { b.Layers = 5 }, true},
		"six layers":               {func(b *api.Bale) { b.Layers = 6 }, false},
		"great layers":             {func(b *api.Bale) { b.Layers = math.MaxInt }, false},
		"dry from 1":               {func(b *api.Bale) { b.Dry.Lo = 1 }, true},
		"dry from 0":               {func(b *api.Bale) { b.Dry.Lo = 0 }, false},
		"dry from below 0":         {func(b *api.Bale) { b.Dry.Lo = math.MinInt }, false},
		"dry to 600":               {func(b *api.Bale) { b.Dry.Hi = 600 }, true},
		"dry to 601":               {func(b *api.Bale) { b.Dry.Hi = 601 }, false},
		"dry to great":             {func(b *api.Bale) { b.Dry.Hi = math.MaxInt }, false},
		"dry just 600":             {func(b *api.Bale) { b.Dry = span(600, 600) }, true},
		"dry just 601":             {func(b *api.Bale) { b.Dry = span(601, 601) }, false},
		"dry the wrong way":        {func(b *api.Bale) { b.Dry = span(500, 499) }, false},
		"no draw":                  {func(b *api.Bale) { b.Draws = []api.Draw{} }, true},
		"draw 0":                   {func(b *api.Bale) { b.Draws[0].Number = 0 }, false},
		"draw below 0":             {func(b *api.Bale) { b.Draws[0].Number = math.MinInt }, false},
		"draw 9999":                {func(b *api.Bale) { b.Draws[2].Number = 9999 }, true},
		"draw 10000":               {func(b *api.Bale) { b.Draws[2].Number = 10000 }, false},
		"a draw twice":             {func(b *api.Bale) { b.Draws[1].Number = 1 }, false},
		"draws the wrong way":      {func(b *api.Bale) { slices.Reverse(b.Draws) }, false},
		"ten draws":                {func(b *api.Bale) { b.Draws = manyDraws(10) }, true},
		"eleven draws":             {func(b *api.Bale) { b.Draws = manyDraws(11) }, false},
		"of a layer below 0":       {func(b *api.Bale) { b.Draws[0].Layer = -1 }, false},
		"of the last layer":        {func(b *api.Bale) { b.Draws[0].Layer = 3 }, true},
		"of no layer":              {func(b *api.Bale) { b.Draws[2].Layer = 4 }, false},
		"of a great layer":         {func(b *api.Bale) { b.Draws[2].Layer = math.MaxInt }, false},
		"says 1 to 9":              {func(b *api.Bale) { b.Draws[0].Grade = span(1, 9) }, true},
		"says 0 to 9":              {func(b *api.Bale) { b.Draws[0].Grade = span(0, 9) }, false},
		"says 1 to 10":             {func(b *api.Bale) { b.Draws[0].Grade = span(1, 10) }, false},
		"says just 10":             {func(b *api.Bale) { b.Draws[0].Grade = span(10, 10) }, false},
		"says 5 to 4":              {func(b *api.Bale) { b.Draws[2].Grade = span(5, 4) }, false},
		"says what is great":       {func(b *api.Bale) { b.Draws[2].Grade = span(math.MinInt, math.MaxInt) }, false},
		"no weighing":              {func(b *api.Bale) { b.Weighs = []api.Weigh{} }, true},
		"weighing 0":               {func(b *api.Bale) { b.Weighs[0].Number = 0 }, false},
		"weighing 9999":            {func(b *api.Bale) { b.Weighs[1].Number = 9999 }, true},
		"weighing 10000":           {func(b *api.Bale) { b.Weighs[1].Number = 10000 }, false},
		"a weighing twice":         {func(b *api.Bale) { b.Weighs[0].Number = 2 }, false},
		"weighings the wrong way":  {func(b *api.Bale) { slices.Reverse(b.Weighs) }, false},
		"eight weighings":          {func(b *api.Bale) { b.Weighs = manyWeighs(8) }, true},
		"nine weighings":           {func(b *api.Bale) { b.Weighs = manyWeighs(9) }, false},
		"1 pound":                  {func(b *api.Bale) { b.Weighs[0].Pounds = 1 }, true},
		"no pound":                 {func(b *api.Bale) { b.Weighs[0].Pounds = 0 }, false},
		"1200 pounds":              {func(b *api.Bale) { b.Weighs[1].Pounds = 1200 }, true},
		"1201 pounds":              {func(b *api.Bale) { b.Weighs[1].Pounds = 1201 }, false},
		"great pounds":             {func(b *api.Bale) { b.Weighs[1].Pounds = math.MaxInt }, false},
		"pounds below 0":           {func(b *api.Bale) { b.Weighs[1].Pounds = math.MinInt }, false},
		"damp 0 to 200":            {func(b *api.Bale) { b.Weighs[0].Damp = span(0, 200) }, true},
		"damp -1 to 200":           {func(b *api.Bale) { b.Weighs[0].Damp = span(-1, 200) }, false},
		"damp 0 to 201":            {func(b *api.Bale) { b.Weighs[0].Damp = span(0, 201) }, false},
		"damp just 201":            {func(b *api.Bale) { b.Weighs[0].Damp = span(201, 201) }, false},
		"damp 7 to 6":              {func(b *api.Bale) { b.Weighs[1].Damp = span(7, 6) }, false},
		"damp that is great":       {func(b *api.Bale) { b.Weighs[1].Damp = span(math.MinInt, math.MaxInt) }, false},
		"no truth of its layers":   {func(b *api.Bale) { *b = odd() }, true},
		"no truth of its weight":   {func(b *api.Bale) { *b = light() }, true},
		"draws that are all alike": {func(b *api.Bale) { b.Draws = slices.Repeat(b.Draws[:1], 2) }, false},
	} {
		b := example()
		x.change(&b)
		want := api.OK
		if !x.valid {
			want = api.ErrBale
		}
		if e := core.Check(b); e != want {
			t.Error(name, e)
		}
		for _, c := range calls() {
			is, e := c.do(b, asks{at: -1})
			if !x.valid && (e != api.ErrBale || !is) || x.valid && e == api.ErrBale {
				t.Error(name, c.name, is, e)
			}
		}
	}
}

// P3.1, R1, R2: errors in their order, with zero values.
func TestErrorsInOrder(t *testing.T) {
	broken := example()
	broken.Id = 0
	for _, c := range calls() {
		for i, b := range []api.Bale{example(), odd(), light(), broken} {
			for _, x := range everyAsk() {
				want := wanted(c, i, x)
				is, e := c.do(b, x)
				if e != want || e != api.OK && !is {
					t.Error(c.name, i, x, is, e, want)
				}
			}
		}
	}
}

// everyAsk returns arguments of which some are valid.
func everyAsk() []asks {
	var l []asks
	for _, at := range ints(0, 3, 4, -1, math.MaxInt, math.MinInt) {
		for _, kind := range ints(1, 4, 5, 0, -1, math.MaxInt) {
			for _, number := range ints(1, 2, 4, 0, math.MinInt) {
				for _, damp := range ints(0, 200, 201, -1, math.MaxInt, math.MinInt) {
					l = append(l, asks{at, kind, number, damp})
				}
			}
		}
	}
	return l
}

// wanted is the error of a call on one of the bales of TestErrorsInOrder, by the sentences of P3.1.
func wanted(c call, bale int, x asks) api.Errno {
	switch {
	case bale == 3:
		return api.ErrBale
	case c.layer && (x.at < 0 || x.at > 3):
		return api.ErrLayer
	case c.kind && (x.kind < 1 || x.kind > 4):
		return api.ErrKind
	case c.number && x.number != 1 && x.number != 2:
		return api.ErrNone
	case c.damp && (x.damp < 0 || x.damp > 200):
		return api.ErrDamp
	case c.truth && bale != 0:
		return api.ErrBad
	}
	return api.OK
}

// P3.1: without a truth these answer all the same.
func TestNoTruth(t *testing.T) {
	for i, b := range []api.Bale{odd(), light()} {
		if is, e := core.Can(b); is || e != api.OK {
			t.Error(i, is, e)
		}
		if y, e := core.Put(b, draw(9, 0, 1, 9)); len(y.Draws) != len(b.Draws)+1 || e != api.OK {
			t.Error(i, y, e)
		}
		if y, e := core.Weighed(b, weigh(9, 1, 0, 0)); len(y.Weighs) != len(b.Weighs)+1 || e != api.OK {
			t.Error(i, y, e)
		}
		if y, e := core.Strike(b, ints(2), ints(1)); len(y.Draws) != len(b.Draws)-1 || len(y.Weighs) != len(b.Weighs)-1 || e != api.OK {
			t.Error(i, y, e)
		}
	}
}
