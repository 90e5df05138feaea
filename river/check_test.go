package river_test

import (
	"math"
	"slices"
	"strings"
	"testing"

	"middling/api"
	"middling/river"
	"middling/stack"
	"middling/testhelp"
)

// asks are the arguments of a call.
type asks struct {
	level, bale, minute int
	gone, order         []int
	gang                api.Gang
	report              api.Report
	numbers             []int
}

// call is one of the functions, for its errors: takes names what it can find amiss, in order; do tells whether all its other results are zero, with its error.
type call struct {
	name, takes string
	do          func(f api.Flood, x asks) (bool, api.Errno)
}

func noFlood(f api.Flood, e api.Errno) (bool, api.Errno) { return same(f, api.Flood{}), e }

func noOrder(order []int, lost int, e api.Errno) (bool, api.Errno) {
	return len(order) == 0 && lost == 0, e
}

func calls() []call {
	return []call{
		{"Check", "", func(f api.Flood, x asks) (bool, api.Errno) { return true, river.Check(f) }},
		{"True", "", func(f api.Flood, x asks) (bool, api.Errno) { return testhelp.Zero(river.True(f)) }},
		{"Reaches", "level truth", func(f api.Flood, x asks) (bool, api.Errno) { return testhelp.Zero(river.Reaches(f, x.level)) }},
		{"Level", "bale", func(f api.Flood, x asks) (bool, api.Errno) { return testhelp.Zero(river.Level(f, x.bale)) }},
		{"Loads", "minute", func(f api.Flood, x asks) (bool, api.Errno) { return testhelp.NoList(river.Loads(f, x.minute)) }},
		{"Can", "bale truth", func(f api.Flood, x asks) (bool, api.Errno) { return testhelp.Zero(river.Can(f, x.bale)) }},
		{"Order", "truth", func(f api.Flood, x asks) (bool, api.Errno) { return noOrder(river.Order(f)) }},
		{"Rest", "gone truth", func(f api.Flood, x asks) (bool, api.Errno) { return testhelp.Zero(river.Rest(f, x.gone)) }},
		{"By", "minute truth", func(f api.Flood, x asks) (bool, api.Errno) { return testhelp.Zero(river.By(f, x.minute)) }},
		{"Judge", "order truth", func(f api.Flood, x asks) (bool, api.Errno) { return testhelp.Zero(river.Judge(f, x.order)) }},
		{"Losses", "truth", func(f api.Flood, x asks) (bool, api.Errno) { return testhelp.NoList(river.Losses(f)) }},
		{"Adds", "gang truth", func(f api.Flood, x asks) (bool, api.Errno) { return testhelp.Zero(river.Adds(f, x.gang)) }},
		{"Wrong", "time false", func(f api.Flood, x asks) (bool, api.Errno) { return testhelp.NoList(river.Wrong(f)) }},
		{"Put", "put", func(f api.Flood, x asks) (bool, api.Errno) { return noFlood(river.Put(f, x.report)) }},
		{"Strike", "numbers", func(f api.Flood, x asks) (bool, api.Errno) { return noFlood(river.Strike(f, x.numbers)) }},
		{"Hire", "room gang", func(f api.Flood, x asks) (bool, api.Errno) { return noFlood(river.Hire(f, x.gang)) }},
	}
}

// kind is something that can be amiss with a flood, or not.
type kind struct {
	change func(f *api.Flood)
	valid  bool
}

// ofLevels are kinds of floods by their houses, and by how the river rises.
func ofLevels() map[string]kind {
	level := func(at int, s api.Span) func(f *api.Flood) { return func(f *api.Flood) { f.Levels[at] = s } }
	gap := func(n int) func(f *api.Flood) { return func(f *api.Flood) { f.Gap = n } }
	return map[string]kind{
		"as it is":              {func(f *api.Flood) {}, true},
		"no value":              {func(f *api.Flood) { *f = api.Flood{} }, false},
		"full":                  {func(f *api.Flood) { *f = full() }, true},
		"without a truth":       {func(f *api.Flood) { *f = odd() }, true},
		"never a truth":         {func(f *api.Flood) { *f = never() }, true},
		"no house":              {func(f *api.Flood) { f.House = api.Warehouse{} }, false},
		"a bale twice":          {func(f *api.Flood) { f.House.Stacks[1].Bales[0] = 11 }, false},
		"a move that cannot be": {func(f *api.Flood) { f.House.Moves[0].Bale = 12 }, false},
		"a bale of nobody":      {func(f *api.Flood) { f.House.Owners = f.House.Owners[1:] }, false},
		"leaks that cannot be":  {func(f *api.Flood) { f.House.Found[1].Wet = true }, true},
		"found nowhere":         {func(f *api.Flood) { f.House.Found[1].Bale = 50 }, false},
		"no levels":             {func(f *api.Flood) { f.Levels = nil }, false},
		"six levels":            {func(f *api.Flood) { f.Levels = f.Levels[:6] }, false},
		"eight levels":          {func(f *api.Flood) { f.Levels = append(f.Levels, span(90, 150)) }, false},
		"a level the wrong way": {level(0, span(21, 20)), false},
		"a last level that is":  {level(6, span(141, 140)), false},
		"one minute":            {level(3, span(60, 60)), true},
		"the minute 0":          {level(0, span(0, 0)), true},
		"below the minute 0":    {level(0, span(-1, 20)), false},
		"the minute 600":        {level(6, span(80, 600)), true},
		"the minute 601":        {level(6, span(80, 601)), false},
		"in a middle one":       {level(3, span(0, 601)), false},
		"the least minute":      {level(1, span(math.MinInt, 45)), false},
		"a great minute":        {level(1, span(30, math.MaxInt)), false},
		"great minutes":         {level(1, span(math.MaxInt, math.MaxInt)), false},
		"the least minutes":     {level(1, span(math.MinInt, math.MinInt)), false},
		"levels that fall":      {func(f *api.Flood) { slices.Reverse(f.Levels) }, true},
		"no gap":                {gap(0), true},
		"a gap below 0":         {gap(-1), false},
		"the least gap":         {gap(math.MinInt), false},
		"the gap 60":            {gap(60), true},
		"the gap 61":            {gap(61), false},
		"a great gap":           {gap(math.MaxInt), false},
	}
}

// ofGangs are kinds of floods by their gangs.
func ofGangs() map[string]kind {
	gangs := func(l ...api.Gang) func(f *api.Flood) { return func(f *api.Flood) { f.Gangs = l } }
	return map[string]kind{
		"no gang":               {gangs(), true},
		"three gangs":           {gangs(gang(1, 0, 1), gang(2, 0, 1), gang(3, 0, 1)), true},
		"four gangs":            {gangs(gang(1, 0, 1), gang(2, 0, 1), gang(3, 0, 1), gang(4, 0, 1)), false},
		"no value for a gang":   {gangs(api.Gang{}), false},
		"the gang 0":            {gangs(gang(0, 0, 1)), false},
		"a gang below 0":        {gangs(gang(math.MinInt, 0, 1)), false},
		"the gang 9999":         {gangs(gang(9999, 0, 1)), true},
		"the gang 10000":        {gangs(gang(10000, 0, 1)), false},
		"a great gang":          {gangs(gang(1, 0, 1), gang(math.MaxInt, 0, 1)), false},
		"a gang twice":          {gangs(gang(1, 0, 1), gang(1, 0, 2)), false},
		"gangs the wrong way":   {gangs(gang(2, 0, 1), gang(1, 0, 1)), false},
		"it comes too soon":     {gangs(gang(1, -1, 1)), false},
		"it comes much sooner":  {gangs(gang(1, math.MinInt, 1)), false},
		"it comes in 600":       {gangs(gang(1, 600, 1)), true},
		"it comes in 601":       {gangs(gang(1, 0, 1), gang(2, 601, 1)), false},
		"it comes much later":   {gangs(gang(1, math.MaxInt, 1)), false},
		"it takes no time":      {gangs(gang(1, 0, 0)), false},
		"it takes less":         {gangs(gang(1, 0, -1)), false},
		"it takes much less":    {gangs(gang(1, 600, math.MinInt)), false},
		"it takes 60":           {gangs(gang(1, 600, 60)), true},
		"it takes 61":           {gangs(gang(1, 0, 1), gang(2, 0, 61)), false},
		"it takes much longer":  {gangs(gang(1, 600, math.MaxInt)), false},
		"later ones come first": {gangs(gang(1, 9, 9), gang(2, 0, 1)), true},
	}
}

// ofWorths are kinds of floods by what bales are worth.
func ofWorths() map[string]kind {
	last := func(bale, pence int) func(f *api.Flood) {
		return func(f *api.Flood) { f.Worths = append(f.Worths, worth(bale, pence)) }
	}
	first := func(bale int) func(f *api.Flood) {
		return func(f *api.Flood) { f.Worths = slices.Insert(f.Worths, 0, worth(bale, 5)) }
	}
	pence := func(at, n int) func(f *api.Flood) { return func(f *api.Flood) { f.Worths[at].Pence = n } }
	many := func(n int) func(f *api.Flood) {
		return func(f *api.Flood) {
			f.Worths = nil
			for bale := range n {
				f.Worths = append(f.Worths, worth(bale+1, 1))
			}
		}
	}
	return map[string]kind{
		"no worth": {func(f *api.Flood) { f.Worths = nil }, false},
		"no worth, and no bale": {func(f *api.Flood) {
			f.House.Stacks, f.House.Moves, f.House.Found, f.Worths = []api.Stack{pile(1, 1)}, nil, nil, nil
		}, true},
		"the first is missing":    {func(f *api.Flood) { f.Worths = f.Worths[1:] }, false},
		"the last is missing":     {func(f *api.Flood) { f.Worths = f.Worths[:5] }, false},
		"one that came in":        {func(f *api.Flood) { f.Worths = slices.Delete(f.Worths, 5, 6) }, false},
		"it did not come in":      {func(f *api.Flood) { f.Worths, f.House.Moves = slices.Delete(f.Worths, 5, 6), f.House.Moves[:2] }, true},
		"one that went out stays": {func(f *api.Flood) { f.House.Moves = f.House.Moves[:1] }, false},
		"it is worth, and stays": {func(f *api.Flood) {
			f.Worths, f.House.Moves = slices.Insert(f.Worths, 4, worth(22, 1)), f.House.Moves[:1]
		}, true},
		"others":                  {last(99, 1), true},
		"one that went out":       {func(f *api.Flood) { f.Worths = slices.Insert(f.Worths, 4, worth(22, 1)) }, true},
		"the bale 9999":           {last(9999, 1), true},
		"the bale 10000":          {last(10000, 1), false},
		"a great bale":            {last(math.MaxInt, 1), false},
		"the bale 0":              {first(0), false},
		"a bale below 0":          {first(math.MinInt), false},
		"the bale 1":              {first(1), true},
		"worths of a bale twice":  {first(11), false},
		"worths the wrong way":    {func(f *api.Flood) { slices.Reverse(f.Worths) }, false},
		"no value for a worth":    {last(0, 0), false},
		"worth nothing":           {pence(0, 0), false},
		"worth less":              {pence(5, -1), false},
		"worth much less":         {pence(3, math.MinInt), false},
		"worth 1":                 {pence(0, 1), true},
		"worth 1000000":           {pence(5, 1000000), true},
		"worth 1000001":           {pence(5, 1000001), false},
		"worth too much":          {pence(0, math.MaxInt), false},
		"another is worth none":   {last(99, 0), false},
		"as many as there can be": {many(9999), true},
		"more than there can be":  {many(10000), false},
	}
}

// ofReports are kinds of floods by their reports.
func ofReports() map[string]kind {
	only := func(l ...api.Report) func(f *api.Flood) { return func(f *api.Flood) { f.Reports = l } }
	return map[string]kind{
		"no report":             {only(), true},
		"eight reports":         {func(f *api.Flood) { f.Reports = full().Reports }, true},
		"nine reports":          {func(f *api.Flood) { f.Reports = slices.Insert(full().Reports, 7, report(72, 1, 0, false)) }, false},
		"no value for a report": {only(api.Report{}), false},
		"the number 0":          {only(report(0, 1, 0, true)), false},
		"a number below 0":      {only(report(math.MinInt, 1, 0, true)), false},
		"the number 9999":       {only(report(9999, 1, 0, true)), true},
		"the number 10000":      {only(report(10000, 1, 0, true)), false},
		"a great number":        {only(report(math.MaxInt, 1, 0, true)), false},
		"a number twice":        {only(report(1, 1, 0, true), report(1, 1, 0, true)), false},
		"numbers that fall":     {only(report(2, 1, 0, true), report(1, 1, 0, true)), false},
		"a report twice":        {only(report(1, 1, 25, true), report(2, 1, 25, true)), true},
		"reports that differ":   {only(report(1, 1, 25, true), report(2, 1, 25, false)), true},
		"the level 0":           {only(report(1, 0, 9, true)), false},
		"a level below 0":       {only(report(1, math.MinInt, 9, true)), false},
		"the level 7":           {only(report(1, 7, 9, true)), true},
		"the level 8":           {only(report(1, 1, 9, true), report(2, 8, 9, true)), false},
		"a great level":         {only(report(1, math.MaxInt, 9, true)), false},
		"a report of 0":         {only(report(1, 1, 0, false)), true},
		"a report below 0":      {only(report(1, 1, -1, false)), false},
		"a report far below":    {only(report(1, 1, math.MinInt, false)), false},
		"a report of 600":       {only(report(1, 1, 600, false)), true},
		"a report of 601":       {only(report(1, 1, 600, true), report(2, 1, 601, true)), false},
		"a great report":        {only(report(1, 1, math.MaxInt, false)), false},
	}
}

// P10.1, R5, R6: what is a flood, and what is not.
func TestCheck(t *testing.T) {
	for _, kinds := range []map[string]kind{ofLevels(), ofGangs(), ofWorths(), ofReports()} {
		for name, x := range kinds {
			f := changed(x.change)
			want := api.OK
			if !x.valid {
				want = api.ErrFlood
			}
			if e := river.Check(f); e != want {
				t.Error(name, e)
			}
			for _, y := range calls() {
				is, e := y.do(f, asks{level: -1, bale: -1, minute: -1, gone: ints(-1), order: ints(-1), numbers: ints(-1)})
				if !x.valid && (e != api.ErrFlood || !is) || x.valid && e == api.ErrFlood {
					t.Error(name, y.name, is, e)
				}
			}
		}
	}
}

// P10.1, R1, R2: errors in their order, with zero values.
func TestErrorsInOrder(t *testing.T) {
	met := map[string]int{}
	for _, f := range []api.Flood{example(), known(), odd(), many(), never(), full(), late(pile(1, 1)), broken()} {
		w, valid, all := begin(f), !same(f, broken()), everyAsk()
		for _, y := range calls() {
			for _, x := range all {
				want := api.ErrFlood
				if valid {
					want = wanted(y, x, w)
				}
				if is, e := y.do(f, x); e != want || e != api.OK && !is {
					t.Fatal(y.name, f, x, is, e, want)
				}
				met[y.name+want.Error()]++
			}
		}
	}
	for _, y := range calls() {
		for _, word := range strings.Fields(y.takes) {
			for _, e := range append(errorsOf(word), api.OK, api.ErrFlood) {
				if met[y.name+e.Error()] < 3 {
					t.Error(y.name, e)
				}
			}
		}
	}
}

// errorsOf returns the errors that one of the words that a call takes can lead to.
func errorsOf(word string) []api.Errno {
	return map[string][]api.Errno{
		"level":   {api.ErrLevel},
		"bale":    {api.ErrNone},
		"minute":  {api.ErrMinute},
		"gone":    {api.ErrGone},
		"order":   {api.ErrTaken},
		"gang":    {api.ErrGang},
		"truth":   {api.ErrBad},
		"time":    {api.ErrNone},
		"false":   {api.ErrMany},
		"put":     {api.ErrFull, api.ErrReport},
		"numbers": {api.ErrReport},
		"room":    {api.ErrFull},
	}[word]
}

// everyAsk returns arguments of which some are valid.
func everyAsk() []asks {
	var l []asks
	lists := [][]int{nil, ints(0), ints(0, 0, 0), ints(1, 2, 2), ints(12, 11), ints(11), ints(1, 2), ints(2, 1), ints(13, 31, 41), ints(3, 2, 1), ints(0, 0, 0, 0, 0), ints(3, 3, 3, 3, 3), ints(1), ints(1, 2, 3, 4), ints(1, 9999)}
	for i, n := range ints(1, 2, 3, 7, 8, 11, 12, 13, 22, 60, 61, 600, 601, 9999, 10000, 0, -1, math.MinInt, math.MaxInt) {
		for at, x := range lists {
			y := lists[(at+i)%len(lists)]
			l = append(l, asks{n, n, n, x, y, gang(n, 0, 10), report(n, 1, 25, true), x}, asks{n, 11, n, y, x, gang(9, n, 10), report(9, n, 25, false), y}, asks{1, n, 600, x, x, gang(9, 0, n), report(9, 1, n, true), x})
		}
	}
	return l
}

// wanted is the error of a call on a valid flood, by the sentences of P10.1 and those of the call.
func wanted(y call, x asks, w words) api.Errno {
	for _, word := range strings.Fields(y.takes) {
		if e := amiss(word, x, w); e != api.OK {
			return e
		}
	}
	return api.OK
}

// amiss is the error of one of the words that a call takes.
func amiss(word string, x asks, w words) api.Errno {
	is := func(f api.Flood) bool { return same(f, w.Flood) }
	isGang := func(g api.Gang) bool { return g.Id == x.gang.Id }
	for _, y := range []struct {
		word string
		is   func() bool
		e    api.Errno
	}{
		{"level", func() bool { return x.level >= 1 && x.level <= 7 }, api.ErrLevel},
		{"bale", func() bool { return w.levels[x.bale] > 0 }, api.ErrNone},
		{"minute", func() bool { return x.minute >= 0 && x.minute <= 600 }, api.ErrMinute},
		{"gone", func() bool { return canHaveGone(w, x.gone) }, api.ErrGone},
		{"order", func() bool { return isOrder(w, x.order) }, api.ErrTaken},
		{"room", func() bool { return len(w.Gangs) < 3 }, api.ErrFull},
		{"gang", func() bool {
			g := x.gang
			return g.Id >= 1 && g.Id <= 9999 && !slices.ContainsFunc(w.Gangs, isGang) && g.Comes >= 0 && g.Comes <= 600 && g.Takes >= 1 && g.Takes <= 60
		}, api.ErrGang},
		{"truth", func() bool { return !is(odd()) && !is(many()) && !is(never()) }, api.ErrBad},
		{"time", func() bool { return !is(never()) }, api.ErrNone},
		{"false", func() bool { return !is(many()) }, api.ErrMany},
		{"put", func() bool { return len(w.Reports) < 8 }, api.ErrFull},
		{"put", func() bool {
			r := x.report
			return r.Number >= 1 && r.Number <= 9999 && !slices.Contains(numbers(w.Flood), r.Number) && r.Level >= 1 && r.Level <= 7 && r.Minute >= 0 && r.Minute <= 600
		}, api.ErrReport},
		{"numbers", func() bool { return areRising(x.numbers, numbers(w.Flood)) }, api.ErrReport},
	} {
		if y.word == word && !y.is() {
			return y.e
		}
	}
	return api.OK
}

func canHaveGone(w words, gone []int) bool {
	for at, n := range gone {
		if at >= len(w.piles) || n < 0 || n > len(w.piles[at].Bales) {
			return false
		}
	}
	return len(gone) == len(w.piles)
}

func isOrder(w words, order []int) bool {
	for at, bale := range order {
		if !slices.Contains(w.tops(order[:at]), bale) {
			return false
		}
	}
	return true
}

// areRising tells whether numbers are among others, in increasing order, no one twice.
func areRising(l, all []int) bool {
	for i, n := range l {
		if i > 0 && n <= l[i-1] || !slices.Contains(all, n) {
			return false
		}
	}
	return true
}

// P10.1: what leaks does not count: a house without a truth of leaks is valid.
func TestLeaksDoNotCount(t *testing.T) {
	f := changed(func(f *api.Flood) { f.House.Found[1].Wet = true; f.House.Found[0].Bale = 11 })
	if can, e := stack.Can(f.House); can || e != api.OK {
		t.Error(can, e)
	}
	if l, n, e := river.Order(f); !slices.Equal(l, ints(12, 11, 13, 31)) || n != 600 || e != api.OK {
		t.Error(l, n, e)
	}
}

// P10.1: without a truth these answer all the same.
func TestNoTruth(t *testing.T) {
	for _, f := range []api.Flood{odd(), many(), never()} {
		if is, e := river.True(f); is || e != api.OK {
			t.Error(is, e)
		}
		if n, e := river.Level(f, 13); n != 3 || e != api.OK {
			t.Error(n, e)
		}
		if l, e := river.Loads(f, 17); len(l) != 2 || e != api.OK {
			t.Error(l, e)
		}
		if y, e := river.Put(f, report(9, 1, 1, true)); len(y.Reports) != len(f.Reports)+1 || e != api.OK {
			t.Error(y, e)
		}
		if y, e := river.Strike(f, ints(2)); len(y.Reports) != len(f.Reports)-1 || e != api.OK {
			t.Error(y, e)
		}
		if y, e := river.Hire(f, gang(9, 1, 1)); len(y.Gangs) != 3 || e != api.OK {
			t.Error(y, e)
		}
	}
}
