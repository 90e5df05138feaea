package fire_test

import (
	"math"
	"slices"
	"strings"
	"testing"

	"middling/api"
	"middling/fire"
	"middling/stack"
	"middling/testhelp"
)

// asks are the arguments of a call.
type asks struct {
	stack, other, minute, bale, house int
	glance                            api.Glance
	numbers                           []int
}

// call is one of the functions, for its errors: takes names what it can find amiss, in order; do tells whether all its other results are zero, with its error.
type call struct {
	name, takes string
	do          func(b api.Blaze, x asks) (bool, api.Errno)
}

func noBlaze(b api.Blaze, e api.Errno) (bool, api.Errno) { return same(b, api.Blaze{}), e }

func noBales(sure, may []int, e api.Errno) (bool, api.Errno) {
	return len(sure) == 0 && len(may) == 0, e
}

func noLook(of, left int, e api.Errno) (bool, api.Errno) { return of == 0 && left == 0, e }

func calls() []call {
	return []call{
		{"Check", "", func(b api.Blaze, x asks) (bool, api.Errno) { return true, fire.Check(b) }},
		{"Can", "", func(b api.Blaze, x asks) (bool, api.Errno) { return testhelp.Zero(fire.Can(b)) }},
		{"Began", "truth", func(b api.Blaze, x asks) (bool, api.Errno) { return testhelp.NoList(fire.Began(b)) }},
		{"Caught", "stack truth some", func(b api.Blaze, x asks) (bool, api.Errno) { return testhelp.Zero(fire.Caught(b, x.stack)) }},
		{"Known", "stack minute truth", func(b api.Blaze, x asks) (bool, api.Errno) { return testhelp.Zero(fire.Known(b, x.stack, x.minute)) }},
		{"Before", "stack other truth differ", func(b api.Blaze, x asks) (bool, api.Errno) { return testhelp.Zero(fire.Before(b, x.stack, x.other)) }},
		{"Spread", "stack other truth gap", func(b api.Blaze, x asks) (bool, api.Errno) { return testhelp.Zero(fire.Spread(b, x.stack, x.other)) }},
		{"Lost", "minute truth", func(b api.Blaze, x asks) (bool, api.Errno) { return noBales(fire.Lost(b, x.minute)) }},
		{"Whose", "truth bale", func(b api.Blaze, x asks) (bool, api.Errno) { return testhelp.NoList(fire.Whose(b, x.bale)) }},
		{"Costs", "minute truth", func(b api.Blaze, x asks) (bool, api.Errno) { return testhelp.Zero(fire.Costs(b, x.house, x.minute)) }},
		{"Ask", "minute truth", func(b api.Blaze, x asks) (bool, api.Errno) { return noLook(fire.Ask(b, x.minute)) }},
		{"Wrong", "false", func(b api.Blaze, x asks) (bool, api.Errno) { return testhelp.NoList(fire.Wrong(b)) }},
		{"Put", "put", func(b api.Blaze, x asks) (bool, api.Errno) { return noBlaze(fire.Put(b, x.glance)) }},
		{"Strike", "numbers", func(b api.Blaze, x asks) (bool, api.Errno) { return noBlaze(fire.Strike(b, x.numbers)) }},
	}
}

// kind is something that can be amiss with a blaze, or not.
type kind struct {
	change func(b *api.Blaze)
	valid  bool
}

// ofHouses are kinds of blazes by their houses, books and days.
func ofHouses() map[string]kind {
	day := func(days, day int) func(b *api.Blaze) {
		return func(b *api.Blaze) { b.Books, b.Day = api.Papers{Days: days}, day }
	}
	bale := func(n int) func(b *api.Blaze) { return func(b *api.Blaze) { b.Books.Papers[1].Bale = n } }
	return map[string]kind{
		"as it is":               {func(b *api.Blaze) {}, true},
		"no value":               {func(b *api.Blaze) { *b = api.Blaze{} }, false},
		"full":                   {func(b *api.Blaze) { *b = full() }, true},
		"without a truth":        {func(b *api.Blaze) { *b = odd() }, true},
		"without one of papers":  {func(b *api.Blaze) { *b = torn() }, true},
		"no house":               {func(b *api.Blaze) { b.House = api.Warehouse{} }, false},
		"no bales":               {func(b *api.Blaze) { *b = row(3, span(0, 0)) }, true},
		"a row that is not":      {func(b *api.Blaze) { b.House.Stacks[0].Row = 0 }, false},
		"a bale twice":           {func(b *api.Blaze) { b.House.Stacks[1].Bales = ints(11) }, false},
		"a bale of nobody":       {func(b *api.Blaze) { b.House.Owners = b.House.Owners[1:] }, false},
		"a move":                 {func(b *api.Blaze) { b.House.Moves = []api.Move{{Day: 30, Bale: 12}} }, true},
		"a move that cannot be":  {func(b *api.Blaze) { b.House.Moves = []api.Move{{Day: 30, Bale: 11}} }, false},
		"leaks that cannot be":   {func(b *api.Blaze) { b.House.Found = []api.Found{{Number: 1, Bale: 11, Wet: true}} }, true},
		"found nowhere":          {func(b *api.Blaze) { b.House.Found = []api.Found{{Number: 1, Bale: 99}} }, false},
		"no books":               {func(b *api.Blaze) { b.Books = api.Papers{} }, false},
		"no papers":              {day(1, 0), true},
		"eleven days":            {func(b *api.Blaze) { b.Books.Days = 11 }, false},
		"books that are not":     {func(b *api.Blaze) { b.Books.Passes[0].To = 5 }, false},
		"a pledge":               {func(b *api.Blaze) { b.Books.Pledges = []api.Pledge{{Number: 1, Paper: 1, By: 9, Bank: 90}} }, true},
		"a pledge that is not":   {func(b *api.Blaze) { b.Books.Pledges = []api.Pledge{{Number: 1, Paper: 3, By: 9, Bank: 90}} }, false},
		"two papers of a bale":   {bale(11), false},
		"a paper of another one": {bale(9999), true},
		"two of another one":     {func(b *api.Blaze) { b.Books.Papers[0].Bale, b.Books.Papers[1].Bale = 9999, 9999 }, false},
		"apart, of a bale":       {func(b *api.Blaze) { b.Books.Papers = append(b.Books.Papers, sheet(3, 11, 1)) }, false},
		"papers the other way":   {func(b *api.Blaze) { b.Books.Papers[0].Bale, b.Books.Papers[1].Bale = 21, 11 }, true},
		"a paper of no bale":     {bale(0), false},
		"a great bale":           {bale(math.MaxInt), false},
		"the day 0":              {day(6, 0), true},
		"the last day":           {day(6, 5), true},
		"behind the last day":    {day(6, 6), false},
		"the day 9":              {day(10, 9), true},
		"the day 10":             {day(10, 10), false},
		"a day below 0":          {day(6, -1), false},
		"far below":              {day(6, math.MinInt), false},
		"a great day":            {day(6, math.MaxInt), false},
		"great days":             {day(math.MaxInt, 30), false},
		"days below 0":           {day(math.MinInt, 0), false},
	}
}

// ofBegins are kinds of blazes by where and when they began.
func ofBegins() map[string]kind {
	in := func(l ...int) func(b *api.Blaze) { return func(b *api.Blaze) { b.Begins = l } }
	start := func(lo, hi int) func(b *api.Blaze) { return func(b *api.Blaze) { b.Start = span(lo, hi) } }
	return map[string]kind{
		"nowhere":            {in(), false},
		"in one":             {in(2), true},
		"in all":             {in(1, 2, 3), true},
		"the wrong way":      {in(3, 1), false},
		"one twice":          {in(1, 1), false},
		"one twice apart":    {in(1, 2, 2, 3), false},
		"no stack":           {in(4), false},
		"no stack behind":    {in(1, 4), false},
		"the stack 0":        {in(0, 1), false},
		"a stack below 0":    {in(math.MinInt), false},
		"a great stack":      {in(1, math.MaxInt), false},
		"the first minutes":  {start(0, 5), true},
		"the last minutes":   {start(595, 600), true},
		"one minute":         {start(600, 600), true},
		"six minutes":        {start(10, 15), true},
		"seven minutes":      {start(10, 16), false},
		"all minutes":        {start(0, 600), false},
		"too late":           {start(600, 601), false},
		"all too late":       {start(601, 601), false},
		"too soon":           {start(-1, 2), false},
		"the other way":      {start(3, 2), false},
		"much too soon":      {start(math.MinInt, 2), false},
		"much too late":      {start(10, math.MaxInt), false},
		"far the other way":  {start(math.MaxInt, math.MinInt), false},
		"from end to end":    {start(math.MinInt, math.MaxInt), false},
		"all much too late":  {start(math.MaxInt, math.MaxInt), false},
		"long before":        {start(math.MinInt, math.MinInt), false},
		"no minute of start": {start(0, -1), false},
	}
}

// ofGaps are kinds of blazes by their gaps.
func ofGaps() map[string]kind {
	only := func(l ...api.Gap) func(b *api.Blaze) { return func(b *api.Blaze) { b.Gaps = l } }
	all := full().Gaps
	return map[string]kind{
		"no gap":              {only(), true},
		"six gaps":            {func(b *api.Blaze) { *b = full(); b.Gaps = slices.Clone(all) }, true},
		"six other gaps":      {func(b *api.Blaze) { *b = full(); b.Gaps = slices.Insert(slices.Clone(all[1:]), 3, gap(5, 8, 0, 0)) }, true},
		"seven gaps":          {func(b *api.Blaze) { *b = full(); b.Gaps = slices.Insert(slices.Clone(all), 4, gap(5, 8, 0, 0)) }, false},
		"no value for a gap":  {only(api.Gap{}), false},
		"all three":           {only(gap(1, 2, 0, 0), gap(1, 3, 0, 0), gap(2, 3, 0, 0)), true},
		"the wrong way by A":  {only(gap(2, 3, 0, 0), gap(1, 3, 0, 0)), false},
		"the wrong way by B":  {only(gap(1, 3, 0, 0), gap(1, 2, 0, 0)), false},
		"a gap twice":         {only(gap(1, 2, 0, 0), gap(1, 2, 1, 1)), false},
		"from B to A":         {only(gap(2, 1, 0, 0)), false},
		"to itself":           {only(gap(2, 2, 0, 0)), false},
		"from no stack":       {only(gap(0, 2, 0, 0)), false},
		"to no stack":         {only(gap(2, 4, 0, 0)), false},
		"from far below":      {only(gap(math.MinInt, 2, 0, 0)), false},
		"to a great one":      {only(gap(1, math.MaxInt, 0, 0)), false},
		"in no time":          {only(gap(1, 2, 0, 2)), true},
		"in an hour":          {only(gap(1, 2, 58, 60)), true},
		"in an hour just":     {only(gap(1, 2, 60, 60)), true},
		"in longer":           {only(gap(1, 2, 60, 61)), false},
		"in less":             {only(gap(1, 2, -1, 1)), false},
		"in too many":         {only(gap(1, 2, 3, 6)), false},
		"in none":             {only(gap(1, 2, 4, 3)), false},
		"the second in many":  {only(gap(1, 2, 3, 5), gap(2, 3, 57, 60)), false},
		"in a great many":     {only(gap(1, 2, 3, math.MaxInt)), false},
		"in much less":        {only(gap(1, 2, math.MinInt, 3)), false},
		"from end to end":     {only(gap(1, 2, math.MinInt, math.MaxInt)), false},
		"far the other way":   {only(gap(1, 2, math.MaxInt, math.MinInt)), false},
		"all much too late":   {only(gap(1, 2, math.MaxInt, math.MaxInt)), false},
		"alike but for where": {only(gap(1, 2, 3, 3), gap(1, 3, 3, 3)), true},
	}
}

// ofGlances are kinds of blazes by their glances.
func ofGlances() map[string]kind {
	only := func(l ...api.Glance) func(b *api.Blaze) { return func(b *api.Blaze) { b.Glances = l } }
	many := func(n int) func(b *api.Blaze) {
		return func(b *api.Blaze) {
			b.Glances = nil
			for i := range n {
				b.Glances = append(b.Glances, glance(i+1, 1, 600, true))
			}
		}
	}
	return map[string]kind{
		"no glance":             {only(), true},
		"eight glances":         {many(8), true},
		"nine glances":          {many(9), false},
		"no value for a glance": {only(api.Glance{}), false},
		"the number 0":          {only(glance(0, 1, 0, true)), false},
		"a number below 0":      {only(glance(math.MinInt, 1, 0, true)), false},
		"the number 9999":       {only(glance(9999, 1, 0, true)), true},
		"the number 10000":      {only(glance(10000, 1, 0, true)), false},
		"a great number":        {only(glance(math.MaxInt, 1, 0, true)), false},
		"a number twice":        {only(glance(1, 1, 0, true), glance(1, 1, 0, true)), false},
		"numbers that fall":     {only(glance(2, 1, 0, true), glance(1, 1, 0, true)), false},
		"a glance twice":        {only(glance(1, 1, 11, true), glance(2, 1, 11, true)), true},
		"glances that differ":   {only(glance(1, 1, 11, true), glance(2, 1, 11, false)), true},
		"at no stack":           {only(glance(1, 4, 0, true)), false},
		"at the stack 0":        {only(glance(1, 0, 0, true)), false},
		"at a stack below 0":    {only(glance(1, math.MinInt, 0, true)), false},
		"at a great stack":      {only(glance(1, 1, 0, true), glance(2, math.MaxInt, 0, true)), false},
		"in 0":                  {only(glance(1, 1, 0, true)), true},
		"before 0":              {only(glance(1, 1, -1, true)), false},
		"long before 0":         {only(glance(1, 1, math.MinInt, true)), false},
		"in 600":                {only(glance(1, 1, 600, false)), true},
		"in 601":                {only(glance(1, 1, 600, true), glance(2, 1, 601, true)), false},
		"much later":            {only(glance(1, 1, math.MaxInt, false)), false},
	}
}

// P11.1, R5, R6: what is a blaze, and what is not.
func TestCheck(t *testing.T) {
	for _, kinds := range []map[string]kind{ofHouses(), ofBegins(), ofGaps(), ofGlances()} {
		for name, x := range kinds {
			b := changed(x.change)
			want := api.OK
			if !x.valid {
				want = api.ErrBlaze
			}
			if e := fire.Check(b); e != want {
				t.Error(name, e)
			}
			for _, y := range calls() {
				is, e := y.do(b, asks{stack: -1, other: -1, minute: -1, bale: -1, numbers: ints(-1)})
				if !x.valid && (e != api.ErrBlaze || !is) || x.valid && e == api.ErrBlaze {
					t.Error(name, y.name, is, e)
				}
			}
		}
	}
}

// P11.1, R1, R2: errors in their order, with zero values.
func TestErrorsInOrder(t *testing.T) {
	met := map[string]int{}
	for _, b := range []api.Blaze{example(), seen(), odd(), many(), torn(), apart(glance(5, 3, 600, false)), full(), row(3, span(0, 5)), broken()} {
		w, valid, all := words{}, !same(b, broken()), everyAsk()
		if valid {
			w = read(b)
		}
		for _, y := range calls() {
			for _, x := range all {
				want := api.ErrBlaze
				if valid {
					want = wanted(y, x, w)
				}
				if is, e := y.do(b, x); e != want || e != api.OK && !is {
					t.Fatal(y.name, b, x, is, e, want)
				}
				met[y.name+want.Error()]++
			}
		}
	}
	for _, y := range calls() {
		for _, word := range strings.Fields(y.takes) {
			for _, e := range append(errorsOf(word), api.OK, api.ErrBlaze) {
				if met[y.name+e.Error()] < 3 {
					t.Error(y.name, e)
				}
			}
		}
	}
}

// errorsOf returns the errors that one of the words that a call takes can lead to.
func errorsOf(word string) []api.Errno {
	return map[string][]api.Errno{
		"stack":   {api.ErrStack},
		"other":   {api.ErrStack},
		"minute":  {api.ErrClock},
		"truth":   {api.ErrBad},
		"some":    {api.ErrNone},
		"differ":  {api.ErrArg},
		"gap":     {api.ErrNone},
		"bale":    {api.ErrNone},
		"false":   {api.ErrMany},
		"put":     {api.ErrFull, api.ErrGlance},
		"numbers": {api.ErrGlance},
	}[word]
}

// everyAsk returns arguments of which some are valid.
func everyAsk() []asks {
	var l []asks
	lists := [][]int{nil, ints(1), ints(2), ints(1, 2), ints(2, 1), ints(1, 1), ints(0), ints(1, 9999), ints(5)}
	for i, n := range ints(1, 2, 3, 4, 11, 12, 600, 601, 9999, 10000, 0, -1, math.MinInt, math.MaxInt) {
		numbers := lists[i%len(lists)]
		l = append(l, asks{n, n, n, n, n, glance(n, 1, 11, true), numbers}, asks{1, n, 600, n, 1, glance(9, n, 11, false), numbers}, asks{n, 1, 0, 11, 5, glance(9, 1, n, true), numbers}, asks{2, n, n, 12, n, glance(7, 2, n, false), numbers}, asks{3, 2, n, 21, 7, glance(n, 2, 0, false), numbers})
	}
	return l
}

// wanted is the error of a call on a valid blaze, by the sentences of P11.1 and those of the call.
func wanted(y call, x asks, w words) api.Errno {
	for _, word := range strings.Fields(y.takes) {
		if e := amiss(word, x, w); e != api.OK {
			return e
		}
	}
	return api.OK
}

// amiss is the error of one of the words that a call takes.
func amiss(word string, x asks, w words) api.Errno {
	ids := stacks(w.Blaze)
	for _, y := range []struct {
		word string
		is   func() bool
		e    api.Errno
	}{
		{"stack", func() bool { return slices.Contains(ids, x.stack) }, api.ErrStack},
		{"other", func() bool { return slices.Contains(ids, x.other) }, api.ErrStack},
		{"minute", func() bool { return x.minute >= 0 && x.minute <= 600 }, api.ErrClock},
		{"truth", func() bool { return w.can() }, api.ErrBad},
		{"some", func() bool { return w.known(func(y truth) bool { return y.had(x.stack, 9999) }) != api.KnownNo }, api.ErrNone},
		{"differ", func() bool { return x.stack != x.other }, api.ErrArg},
		{"gap", func() bool {
			return slices.ContainsFunc(w.Gaps, func(g api.Gap) bool { return g.A == x.stack && g.B == x.other || g.A == x.other && g.B == x.stack })
		}, api.ErrNone},
		{"bale", func() bool { return slices.Contains(bales(w.Blaze), x.bale) }, api.ErrNone},
		{"false", func() bool { return !same(w.Blaze, many()) }, api.ErrMany},
		{"put", func() bool { return len(w.Glances) < 8 }, api.ErrFull},
		{"put", func() bool {
			g := x.glance
			return g.Number >= 1 && g.Number <= 9999 && !slices.Contains(numbers(w.Blaze), g.Number) && slices.Contains(ids, g.Stack) && g.Minute >= 0 && g.Minute <= 600
		}, api.ErrGlance},
		{"numbers", func() bool { return areRising(x.numbers, numbers(w.Blaze)) }, api.ErrGlance},
	} {
		if y.word == word && !y.is() {
			return y.e
		}
	}
	return api.OK
}

// areRising tells whether numbers are among others, in increasing order, no one twice.
func areRising(l, all []int) bool {
	for i, n := range l {
		if i > 0 && n <= l[i-1] || !slices.Contains(all, n) {
			return false
		}
	}
	return true
}

// P11.1: what leaks does not count: a house without a truth of leaks is valid, and the fire has one.
func TestLeaksDoNotCount(t *testing.T) {
	b := changed(func(b *api.Blaze) { b.House.Found = []api.Found{{Number: 1, Bale: 11, Wet: true}} })
	if can, e := stack.Can(b.House); can || e != api.OK {
		t.Error(can, e)
	}
	if can, e := fire.Can(b); !can || e != api.OK {
		t.Error(can, e)
	}
	if l, e := fire.Began(b); !slices.Equal(l, ints(1)) || e != api.OK {
		t.Error(l, e)
	}
}

// P11.1: without a truth these answer all the same.
func TestNoTruth(t *testing.T) {
	for _, b := range []api.Blaze{odd(), many(), torn()} {
		if is, e := fire.Can(b); is || e != api.OK {
			t.Error(is, e)
		}
		if y, e := fire.Put(b, glance(9, 1, 1, true)); len(y.Glances) != len(b.Glances)+1 || e != api.OK {
			t.Error(y, e)
		}
		if y, e := fire.Strike(b, ints(2)); len(y.Glances) != len(b.Glances)-1 || e != api.OK {
			t.Error(y, e)
		}
	}
}
