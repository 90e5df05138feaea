package stack_test

import (
	"math"
	"slices"
	"strings"
	"testing"

	"middling/api"
	"middling/stack"
	"middling/testhelp"
)

// asks are the arguments of a call.
type asks struct {
	day, bale, owner int
	bales            []int
	seen             []api.Seen
	move             api.Move
	found            api.Found
	numbers          []int
}

// call is one of the functions, for its errors: takes names what it can find amiss, in order; do tells whether all its other results are zero, with its error.
type call struct {
	name, takes string
	do          func(w api.Warehouse, x asks) (bool, api.Errno)
}

func noHouse(w api.Warehouse, e api.Errno) (bool, api.Errno) { return same(w, api.Warehouse{}), e }

func noPair(a, b int, e api.Errno) (bool, api.Errno) { return a == 0 && b == 0, e }

func calls() []call {
	return []call{
		{"Check", "", func(w api.Warehouse, x asks) (bool, api.Errno) { return true, stack.Check(w) }},
		{"At", "day", func(w api.Warehouse, x asks) (bool, api.Errno) { return testhelp.NoList(stack.At(w, x.day)) }},
		{"Where", "day bale", func(w api.Warehouse, x asks) (bool, api.Errno) { return noPair(stack.Where(w, x.bale, x.day)) }},
		{"Above", "bale inside", func(w api.Warehouse, x asks) (bool, api.Errno) { return testhelp.NoList(stack.Above(w, x.bale)) }},
		{"Room", "", func(w api.Warehouse, x asks) (bool, api.Errno) { return testhelp.Zero(stack.Room(w)) }},
		{"Held", "day", func(w api.Warehouse, x asks) (bool, api.Errno) { return testhelp.NoList(stack.Held(w, x.owner, x.day)) }},
		{"Out", "bales way", func(w api.Warehouse, x asks) (bool, api.Errno) { return testhelp.NoList(stack.Out(w, x.bales)) }},
		{"Worst", "any", func(w api.Warehouse, x asks) (bool, api.Errno) { return noPair(stack.Worst(w)) }},
		{"Unseen", "seen few", func(w api.Warehouse, x asks) (bool, api.Errno) { return testhelp.Zero(stack.Unseen(w, x.seen)) }},
		{"May", "seen bale few", func(w api.Warehouse, x asks) (bool, api.Errno) {
			return testhelp.NoList(stack.May(w, x.seen, x.bale))
		}},
		{"Can", "", func(w api.Warehouse, x asks) (bool, api.Errno) { return testhelp.Zero(stack.Can(w)) }},
		{"Leaks", "truth", func(w api.Warehouse, x asks) (bool, api.Errno) { return testhelp.NoList(stack.Leaks(w)) }},
		{"Wet", "bale truth", func(w api.Warehouse, x asks) (bool, api.Errno) { return testhelp.Zero(stack.Wet(w, x.bale)) }},
		{"Look", "truth open", func(w api.Warehouse, x asks) (bool, api.Errno) { return noPair(stack.Look(w)) }},
		{"Wrong", "false", func(w api.Warehouse, x asks) (bool, api.Errno) { return testhelp.NoList(stack.Wrong(w)) }},
		{"Do", "move", func(w api.Warehouse, x asks) (bool, api.Errno) { return noHouse(stack.Do(w, x.move)) }},
		{"Find", "found", func(w api.Warehouse, x asks) (bool, api.Errno) { return noHouse(stack.Find(w, x.found)) }},
		{"Strike", "numbers", func(w api.Warehouse, x asks) (bool, api.Errno) { return noHouse(stack.Strike(w, x.numbers)) }},
	}
}

// kind is something that can be amiss with a warehouse, or not.
type kind struct {
	change func(w *api.Warehouse)
	valid  bool
}

// ofStacks are kinds of warehouses by their stacks.
func ofStacks() map[string]kind {
	bare := func(l ...api.Stack) kind {
		return kind{func(w *api.Warehouse) { w.Stacks, w.Moves, w.Found = l, nil, nil }, true}
	}
	bad := func(k kind) kind { return kind{k.change, false} }
	return map[string]kind{
		"as it is":                 {func(w *api.Warehouse) {}, true},
		"no value":                 {func(w *api.Warehouse) { *w = api.Warehouse{} }, false},
		"full":                     {func(w *api.Warehouse) { *w = full() }, true},
		"without a truth":          {func(w *api.Warehouse) { *w = odd() }, true},
		"no stack":                 bad(bare()),
		"one stack":                bare(pile(1, 1)),
		"five stacks":              bare(pile(1, 1), pile(2, 1), pile(3, 1), pile(4, 1), pile(5, 1)),
		"six stacks":               bad(bare(pile(1, 1), pile(2, 1), pile(3, 1), pile(4, 1), pile(5, 1), pile(6, 1))),
		"the stack 0":              bad(bare(pile(0, 1))),
		"a stack below 0":          bad(bare(pile(math.MinInt, 1))),
		"the stack 9999":           bare(pile(9999, 1)),
		"the stack 10000":          bad(bare(pile(10000, 1))),
		"a great stack":            bad(bare(pile(1, 1), pile(math.MaxInt, 1))),
		"a stack twice":            bad(bare(pile(1, 1), pile(1, 1))),
		"stacks the wrong way":     bad(bare(pile(2, 1), pile(1, 1))),
		"the row 0":                bad(bare(pile(1, 0))),
		"a row below 0":            bad(bare(pile(1, 1), pile(2, math.MinInt))),
		"the row 5":                bare(pile(1, 5)),
		"the row 6":                bad(bare(pile(1, 6))),
		"a great row":              bad(bare(pile(1, math.MaxInt))),
		"rows the wrong way":       bare(pile(1, 3), pile(2, 1)),
		"three bales":              bare(pile(1, 1, 41, 11, 31)),
		"four bales":               bad(bare(pile(1, 1, 41, 11, 31, 12))),
		"a bale twice in a stack":  bad(bare(pile(1, 1, 11, 12, 11))),
		"a bale twice in two":      bad(bare(pile(1, 1, 11), pile(2, 1, 11))),
		"the bale 0":               bad(bare(pile(1, 1, 0))),
		"the bale 0 at last":       bad(bare(pile(1, 1, 11, 0, 0))),
		"a bale below 0":           bad(bare(pile(1, 1, math.MinInt))),
		"a bale of nobody":         bad(bare(pile(1, 1, 42))),
		"a great bale":             bad(bare(pile(1, 1, math.MaxInt))),
		"a stack that is not full": bare(pile(1, 1, 11), pile(2, 1), pile(3, 1, 12, 13)),
	}
}

// ofOwners are kinds of warehouses by whose bales are.
func ofOwners() map[string]kind {
	last := func(x api.Owned) func(w *api.Warehouse) {
		return func(w *api.Warehouse) { w.Owners = append(w.Owners, x) }
	}
	return map[string]kind{
		"no owner":                {func(w *api.Warehouse) { w.Owners = nil }, false},
		"nobody, and nothing":     {func(w *api.Warehouse) { *w = api.Warehouse{Stacks: []api.Stack{pile(1, 1)}} }, true},
		"others":                  {last(owned(50, 3)), true},
		"the bale 9999 of 9999":   {last(owned(9999, 9999)), true},
		"the bale 10000":          {last(owned(10000, 1)), false},
		"a great bale":            {last(owned(math.MaxInt, 1)), false},
		"the owner 0":             {last(owned(50, 0)), false},
		"the owner 10000":         {last(owned(50, 10000)), false},
		"an owner below 0":        {last(owned(50, math.MinInt)), false},
		"a great owner":           {last(owned(50, math.MaxInt)), false},
		"the bale 0":              {func(w *api.Warehouse) { w.Owners = slices.Insert(w.Owners, 0, owned(0, 1)) }, false},
		"a bale below 0":          {func(w *api.Warehouse) { w.Owners = slices.Insert(w.Owners, 0, owned(-1, 1)) }, false},
		"the bale 1":              {func(w *api.Warehouse) { w.Owners = slices.Insert(w.Owners, 0, owned(1, 1)) }, true},
		"a bale twice":            {last(owned(41, 2)), false},
		"bales the wrong way":     {func(w *api.Warehouse) { slices.Reverse(w.Owners) }, false},
		"a bale of nobody":        {func(w *api.Warehouse) { w.Owners = slices.Delete(w.Owners, 0, 1) }, false},
		"a bale of nobody later":  {func(w *api.Warehouse) { w.Owners = w.Owners[:6] }, false},
		"one that is not used":    {func(w *api.Warehouse) { w.Owners = w.Owners[:6]; w.Moves = w.Moves[:2] }, true},
		"no value for an owner":   {last(api.Owned{}), false},
		"as many as there can be": {func(w *api.Warehouse) { w.Owners = everyone(9999) }, true},
		"more than there can be":  {func(w *api.Warehouse) { w.Owners = everyone(10000) }, false},
	}
}

// everyone returns whose all bales up to one are.
func everyone(bales int) []api.Owned {
	var l []api.Owned
	for bale := range bales {
		l = append(l, owned(bale+1, 1))
	}
	return l
}

// ofMoves are kinds of warehouses by their moves.
func ofMoves() map[string]kind {
	only := func(l ...api.Move) func(w *api.Warehouse) { return func(w *api.Warehouse) { w.Moves = l } }
	more := func(l ...api.Move) func(w *api.Warehouse) {
		return func(w *api.Warehouse) { w.Moves = append(w.Moves, l...) }
	}
	return map[string]kind{
		"no move":                      {func(w *api.Warehouse) { w.Moves = nil }, true},
		"ten moves":                    {func(w *api.Warehouse) { *w = full() }, true},
		"eleven moves":                 {func(w *api.Warehouse) { *w = full(); w.Moves = append(w.Moves, move(30, 14, 0)) }, false},
		"eleven moves, the last one":   {func(w *api.Warehouse) { *w = full(); w.Moves = append(w.Moves, move(30, 19, 0)) }, false},
		"the day 0":                    {only(move(0, 13, 3)), false},
		"a day below 0":                {only(move(math.MinInt, 13, 3)), false},
		"the day 30":                   {only(move(30, 13, 3)), true},
		"the day 31":                   {only(move(31, 13, 3)), false},
		"a great day":                  {only(move(math.MaxInt, 13, 3)), false},
		"the same day":                 {only(move(4, 13, 3), move(4, 12, 3)), true},
		"a day that falls":             {only(move(4, 13, 3), move(3, 12, 3)), false},
		"a bale that is not on top":    {only(move(1, 12, 3)), false},
		"one behind that above it":     {only(move(1, 13, 3), move(1, 12, 3)), true},
		"one before that above it":     {only(move(1, 12, 3), move(1, 13, 3)), false},
		"onto its own stack":           {only(move(1, 13, 1)), false},
		"onto its own stack with room": {only(move(1, 31, 3)), false},
		"onto no stack":                {only(move(1, 13, 4)), false},
		"onto a stack below 0":         {only(move(1, 13, -1)), false},
		"onto a great stack":           {only(move(1, 13, math.MaxInt)), false},
		"onto one without room":        {only(move(1, 31, 1)), false},
		"onto one with room now":       {only(move(1, 13, 0), move(1, 31, 1)), true},
		"onto one without room now":    {only(move(1, 13, 2), move(1, 31, 2)), false},
		"out and out":                  {only(move(1, 13, 0), move(2, 13, 0)), false},
		"out, and in again":            {only(move(1, 13, 0), move(2, 13, 1)), false},
		"in":                           {only(move(1, 41, 3)), true},
		"in and out":                   {more(move(6, 41, 0)), true},
		"in and on":                    {more(move(6, 41, 3)), true},
		"in, out, and in again":        {more(move(6, 41, 0), move(7, 41, 2)), false},
		"in and in":                    {more(move(6, 41, 2)), false},
		"in, and out at once":          {only(move(1, 41, 0)), false},
		"in, onto no stack":            {only(move(1, 41, 4)), false},
		"in, onto one without room":    {only(move(1, 41, 1)), false},
		"in, of nobody":                {only(move(1, 42, 3)), false},
		"the bale 0":                   {only(move(1, 0, 3)), false},
		"the bale 0 where none is":     {func(w *api.Warehouse) { *w = store(nil, nil); w.Moves = []api.Move{move(1, 0, 1)} }, false},
		"the bale 0 out":               {func(w *api.Warehouse) { *w = store(nil, nil); w.Moves = []api.Move{move(1, 0, 0)} }, false},
		"a bale below 0":               {only(move(1, math.MinInt, 3)), false},
		"no value for a move":          {only(api.Move{}), false},
		"there and back":               {only(move(1, 13, 3), move(1, 13, 2), move(1, 13, 1), move(2, 13, 0)), true},
	}
}

// ofRain are kinds of warehouses by days of rain, and by what was found.
func ofRain() map[string]kind {
	rain := func(l ...int) func(w *api.Warehouse) { return func(w *api.Warehouse) { w.Rain = l } }
	only := func(l ...api.Found) func(w *api.Warehouse) { return func(w *api.Warehouse) { w.Found = l } }
	return map[string]kind{
		"no rain":              {rain(), true},
		"rain on all days":     {func(w *api.Warehouse) { w.Rain = full().Rain }, true},
		"rain on 0":            {rain(0, 1), false},
		"rain below 0":         {rain(math.MinInt), false},
		"rain on 30":           {rain(30), true},
		"rain on 31":           {rain(1, 31), false},
		"rain on a great day":  {rain(math.MaxInt), false},
		"rain twice":           {rain(3, 3), false},
		"rain the wrong way":   {rain(3, 2), false},
		"nothing found":        {only(), true},
		"eight found":          {func(w *api.Warehouse) { *w = full() }, true},
		"nine found":           {func(w *api.Warehouse) { *w = full(); w.Found = slices.Insert(w.Found, 7, found(100, 1, true)) }, false},
		"the number 0":         {only(found(0, 11, true)), false},
		"a number below 0":     {only(found(math.MinInt, 11, true)), false},
		"the number 9999":      {only(found(9999, 11, true)), true},
		"the number 10000":     {only(found(10000, 11, true)), false},
		"a great number":       {only(found(math.MaxInt, 11, true)), false},
		"a number twice":       {only(found(1, 11, true), found(1, 11, true)), false},
		"numbers that fall":    {only(found(2, 11, true), found(1, 11, true)), false},
		"a bale twice":         {only(found(1, 11, true), found(2, 11, false)), true},
		"a bale that came in":  {only(found(1, 41, true)), true},
		"a bale that went out": {only(found(1, 22, true)), true},
		"a bale that never was": {func(w *api.Warehouse) {
			w.Owners, w.Found = append(w.Owners, owned(50, 1)), []api.Found{found(1, 50, false)}
		}, false},
		"a bale of nobody":       {only(found(1, 42, false)), false},
		"the bale 0":             {only(found(1, 0, false)), false},
		"a great bale":           {only(found(1, math.MaxInt, false)), false},
		"no value for what is":   {only(api.Found{}), false},
		"a bale that did not go": {func(w *api.Warehouse) { w.Moves, w.Found = w.Moves[:2], []api.Found{found(1, 41, false)} }, false},
	}
}

// P8.1, R5, R6: what is a warehouse, and what is not.
func TestCheck(t *testing.T) {
	for _, kinds := range []map[string]kind{ofStacks(), ofOwners(), ofMoves(), ofRain()} {
		for name, x := range kinds {
			w := example(x.change)
			want := api.OK
			if !x.valid {
				want = api.ErrHouse
			}
			if e := stack.Check(w); e != want {
				t.Error(name, e)
			}
			for _, f := range calls() {
				is, e := f.do(w, asks{day: -1, bale: -1, bales: ints(-1), seen: []api.Seen{{}}, numbers: ints(-1)})
				if !x.valid && (e != api.ErrHouse || !is) || x.valid && e == api.ErrHouse {
					t.Error(name, f.name, is, e)
				}
			}
		}
	}
}

// cramped has no room: bales go out from the top down, or not at all.
func cramped() api.Warehouse { return store(ints(1, 2, 3)) }

// P8.1, R1, R2: errors in their order, with zero values.
func TestErrorsInOrder(t *testing.T) {
	met := map[string]int{}
	for _, w := range []api.Warehouse{example(), odd(), many(), full(), cramped(), store(nil), broken()} {
		for _, f := range calls() {
			for _, x := range everyAsk() {
				want := api.ErrHouse
				if !same(w, broken()) {
					want = wanted(f, x, w)
				}
				if is, e := f.do(w, x); e != want || e != api.OK && !is {
					t.Fatal(f.name, w, x, is, e, want)
				}
				met[f.name+want.Error()]++
			}
		}
	}
	for _, f := range calls() {
		for _, word := range strings.Fields(f.takes) {
			for _, e := range append(errorsOf(word), api.OK, api.ErrHouse) {
				if met[f.name+e.Error()] < 3 {
					t.Error(f.name, e)
				}
			}
		}
	}
}

// errorsOf returns the errors that one of the words that a call takes can lead to.
func errorsOf(word string) []api.Errno {
	switch word {
	case "day":
		return []api.Errno{api.ErrArg}
	case "bale", "bales":
		return []api.Errno{api.ErrHeld}
	case "seen":
		return []api.Errno{api.ErrSeen}
	case "truth":
		return []api.Errno{api.ErrBad}
	case "few", "false":
		return []api.Errno{api.ErrMany}
	case "move":
		return []api.Errno{api.ErrFull, api.ErrMove}
	case "found":
		return []api.Errno{api.ErrFull, api.ErrFound}
	case "numbers":
		return []api.Errno{api.ErrFound}
	}
	return []api.Errno{api.ErrNone}
}

// everyAsk returns arguments of which some are valid.
func everyAsk() []asks {
	var l []asks
	odd := ints(-1, 31, 10000, math.MinInt, math.MaxInt)
	lists := [][]int{nil, ints(1), ints(1, 2), ints(2, 3), ints(11, 12), ints(12, 11), ints(11, 11), ints(1, 11, 9999), ints(1, 2, 3, 4)}
	for _, a := range append(ints(0, 1, 3, 12, 30), odd...) {
		for _, b := range append(ints(0, 1, 2, 3, 11, 12, 13, 22, 41, 50), odd...) {
			for i, x := range [][]api.Seen{nil, {seen(1, 1, 1)}, {seen(1, 1, 11)}, {seen(1, 3, b)}, {seen(a, 2, 0)}, {seen(1, a, b)}, {seen(b, 1, 0)}, {seen(1, 1, 0), seen(1, 2, b)}, {seen(1, 1, 2)}} {
				l = append(l, asks{a, b, a, lists[i], x, move(30, b, a), found(50, b, i%2 == 0), lists[i]})
			}
			l = append(l, asks{a, b, b, ints(b), nil, move(a, 12, 3), found(a, 11, false), ints(a)})
		}
	}
	return l
}

// wanted is the error of a call on a valid warehouse, by the sentences of P8.1 and those of the call.
func wanted(f call, x asks, w api.Warehouse) api.Errno {
	for _, word := range strings.Fields(f.takes) {
		if e := amiss(word, x, w); e != api.OK {
			return e
		}
	}
	return api.OK
}

// amiss is the error of one of the words that a call takes.
func amiss(word string, x asks, w api.Warehouse) api.Errno {
	there := on(w, 30).bales()
	for _, y := range []struct {
		word string
		is   func() bool
		e    api.Errno
	}{
		{"day", func() bool { return x.day >= 0 && x.day <= 30 }, api.ErrArg},
		{"bale", func() bool { return slices.Contains(been(w), x.bale) }, api.ErrHeld},
		{"inside", func() bool { return slices.Contains(there, x.bale) }, api.ErrNone},
		{"bales", func() bool { return areRising(x.bales, there) }, api.ErrHeld},
		{"way", func() bool { return hasWay(w, x.bales) }, api.ErrNone},
		{"any", func() bool { return len(there) > 0 }, api.ErrNone},
		{"seen", func() bool { return !slices.ContainsFunc(x.seen, func(s api.Seen) bool { return !canBeSeen(w, s) }) }, api.ErrSeen},
		{"few", func() bool { return len(unseen(w, x.seen)) > 0 }, api.ErrMany},
		{"truth", func() bool { return !same(w, odd()) && !same(w, many()) }, api.ErrBad},
		{"open", func() bool { return same(w, example()) || same(w, full()) }, api.ErrNone},
		{"false", func() bool { return !same(w, many()) }, api.ErrMany},
		{"move", func() bool { return len(w.Moves) < 10 }, api.ErrFull},
		{"move", func() bool { return fits(w, x.move) }, api.ErrMove},
		{"found", func() bool { return len(w.Found) < 8 }, api.ErrFull},
		{"found", func() bool {
			return x.found.Number > 0 && x.found.Number < 10000 && !slices.Contains(numbers(w), x.found.Number) && slices.Contains(been(w), x.found.Bale)
		}, api.ErrFound},
		{"numbers", func() bool { return areRising(x.numbers, numbers(w)) }, api.ErrFound},
	} {
		if y.word == word && !y.is() {
			return y.e
		}
	}
	return api.OK
}

// areRising tells whether numbers are among others, in increasing order, no one twice.
func areRising(l, all []int) bool {
	for i, n := range l {
		if i > 0 && n <= l[i-1] || !slices.Contains(all, n) {
			return false
		}
	}
	return true
}

// hasWay tells whether bales can be got out: of those houses that are asked here all have room for it, or none.
func hasWay(w api.Warehouse, bales []int) bool {
	if same(w, example()) || same(w, odd()) || same(w, many()) {
		return true
	}
	for _, l := range on(w, 30) {
		for i := range len(l) - 1 {
			if slices.Contains(bales, l[i]) && !slices.Contains(bales, l[i+1]) {
				return false
			}
		}
	}
	return true
}

func canBeSeen(w api.Warehouse, s api.Seen) bool {
	return slices.Contains(first(w).ids(), s.Stack) && s.High >= 1 && s.High <= 3 && (s.Bale == 0 || slices.Contains(been(w), s.Bale))
}

// fits tells whether a move can be behind all others, and on its day.
func fits(w api.Warehouse, m api.Move) bool {
	if m.Day < 1 || m.Day > 30 || len(w.Moves) > 0 && m.Day < w.Moves[len(w.Moves)-1].Day {
		return false
	}
	return slices.ContainsFunc(w.Owners, func(x api.Owned) bool { return x.Bale == m.Bale }) && on(w, 30).allows(m, been(w))
}

// P8.1: without a truth these answer all the same.
func TestNoTruth(t *testing.T) {
	for _, w := range []api.Warehouse{odd(), many()} {
		if l, e := stack.At(w, 30); !sameStacks(l, []api.Stack{pile(1, 1, 11, 12), pile(2, 1, 21, 41), pile(3, 2, 31, 13)}) || e != api.OK {
			t.Error(l, e)
		}
		if s, h, e := stack.Where(w, 13, 2); s != 3 || h != 2 || e != api.OK {
			t.Error(s, h, e)
		}
		if l, e := stack.Above(w, 11); !slices.Equal(l, ints(12)) || e != api.OK {
			t.Error(l, e)
		}
		if n, e := stack.Room(w); n != 3 || e != api.OK {
			t.Error(n, e)
		}
		if l, e := stack.Held(w, 1, 0); len(l) != 3 || e != api.OK {
			t.Error(l, e)
		}
		if l, e := stack.Out(w, ints(11)); len(l) != 2 || e != api.OK {
			t.Error(l, e)
		}
		if b, n, e := stack.Worst(w); b != 11 || n != 2 || e != api.OK {
			t.Error(b, n, e)
		}
		if l, e := stack.May(w, []api.Seen{seen(3, 2, 0)}, 13); !slices.Equal(l, ints(0, 1, 2)) || e != api.OK {
			t.Error(l, e)
		}
		if y, e := stack.Do(w, move(6, 12, 0)); len(y.Moves) != 4 || e != api.OK {
			t.Error(y, e)
		}
		if y, e := stack.Find(w, found(9, 12, true)); len(y.Found) != len(w.Found)+1 || e != api.OK {
			t.Error(y, e)
		}
		if y, e := stack.Strike(w, ints(2)); len(y.Found) != len(w.Found)-1 || e != api.OK {
			t.Error(y, e)
		}
	}
}
