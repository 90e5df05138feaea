package season_test

import (
	"fmt"
	"math"
	"math/rand"
	"reflect"
	"slices"
	"strings"
	"testing"

	"middling/api"
	"middling/chain"
	"middling/grade"
	"middling/paper"
	"middling/season"
	"middling/stack"
	"middling/testhelp"
)

// kind is something that can be amiss with a season, or not.
type kind struct {
	change func(s *api.Season)
	valid  bool
}

func kinds() map[string]kind {
	return map[string]kind{
		"as it is":             {func(s *api.Season) {}, true},
		"no value":             {func(s *api.Season) { *s = api.Season{} }, false},
		"bare":                 {func(s *api.Season) { *s = bare() }, true},
		"full":                 {func(s *api.Season) { *s = full() }, true},
		"no truth of the desk": {func(s *api.Season) { *s = unjust() }, true},
		"none of the papers":   {func(s *api.Season) { *s = untrue() }, true},
		"none of the house":    {func(s *api.Season) { *s = leaky() }, true},
		"no desk":              {func(s *api.Season) { s.Desk = api.Desk{} }, false},
		"no room":              {func(s *api.Season) { s.Desk.Room = api.Room{} }, false},
		"no ages":              {func(s *api.Season) { s.Desk.Room.Ages = nil }, false},
		"a lean of 30":         {func(s *api.Season) { s.Desk.Lean = 30 }, true},
		"a lean of 31":         {func(s *api.Season) { s.Desk.Lean = 31 }, false},
		"a great lean":         {func(s *api.Season) { s.Desk.Lean = math.MaxInt }, false},
		"a look of nobody":     {func(s *api.Season) { s.Desk.Looks = []api.Look{lookOf(1, 4, 11, 0, 1, 4)} }, false},
		"a look":               {func(s *api.Season) { s.Desk.Looks = []api.Look{lookOf(1, 3, 11, 0, 1, 4)} }, true},
		"a match too many":     {func(s *api.Season) { s.Desk.Room.Matches = slices.Repeat(s.Desk.Room.Matches, 2) }, false},
		"no chain":             {func(s *api.Season) { s.Chain = api.Chain{} }, true},
		"a house twice":        {func(s *api.Season) { s.Chain.Houses = ints(1, 1) }, false},
		"seven houses":         {func(s *api.Season) { s.Chain.Houses = ints(1, 2, 3, 4, 5, 6, 7) }, false},
		"a sale":               {func(s *api.Season) { s.Chain.Sales = []api.Sale{saleOf(1, 1, 2, 9, 1000000)} }, true},
		"a sale of no bales":   {func(s *api.Season) { s.Chain.Sales = []api.Sale{saleOf(1, 1, 2, 0, 1000000)} }, false},
		"a great price":        {func(s *api.Season) { s.Chain.Sales = []api.Sale{saleOf(1, 1, 2, 9, math.MaxInt)} }, false},
		"no house":             {func(s *api.Season) { s.House = api.Warehouse{} }, false},
		"rain before all days": {func(s *api.Season) { s.House.Rain = ints(0) }, false},
		"rain long before":     {func(s *api.Season) { s.House.Rain = ints(math.MinInt) }, false},
		"a bale of nobody":     {func(s *api.Season) { s.House.Owners = s.House.Owners[1:] }, false},
		"a move of no bale":    {func(s *api.Season) { s.House.Moves[0].Bale = 99 }, false},
		"found nowhere":        {func(s *api.Season) { s.House.Found[1].Bale = 99 }, false},
		"no papers":            {func(s *api.Season) { s.Papers = api.Papers{} }, false},
		"no papers of ten":     {func(s *api.Season) { s.Papers = api.Papers{Days: 10} }, true},
		"eleven days":          {func(s *api.Season) { s.Papers.Days = 11 }, false},
		"a pass to itself":     {func(s *api.Season) { s.Papers.Passes = []api.Pass{passOf(1, 1, 1, 1, 0, 1)} }, false},
		"a pass to a stranger": {func(s *api.Season) { s.Papers.Passes = []api.Pass{passOf(1, 1, 1, 9, 0, 1)} }, true},
		"a pledge of nothing":  {func(s *api.Season) { s.Papers.Pledges = []api.Pledge{{Number: 1, Paper: 2, By: 1, Bank: 9}} }, false},
		"two papers of a bale": {func(s *api.Season) { s.Papers.Papers = append(s.Papers.Papers, api.Paper{Id: 2, Bale: 11, Holder: 9}) }, true},
		"a paper of no bale":   {func(s *api.Season) { s.Papers.Papers[0].Bale = 0 }, false},
		"desks of strangers":   {func(s *api.Season) { s.Desk.Bales = ints(97, 98, 99) }, true},
	}
}

// asks are the arguments of a call.
type asks struct {
	act, other api.Act
	line, file string
	lines      []string
}

// call is one of the functions: takes names what it can find amiss, in order; do tells whether all its other results are zero, with its error.
type call struct {
	name, takes string
	do          func(s api.Season, x asks) (bool, api.Errno)
}

// none tells whether all results of a call but its error, the last one, are zero values.
func none(results ...any) (bool, api.Errno) {
	last := len(results) - 1
	for _, x := range results[:last] {
		switch x := x.(type) {
		case api.Season:
			if !same(x, api.Season{}) {
				return false, results[last].(api.Errno)
			}
		case api.Books:
			if !same(x, api.Books{}) {
				return false, results[last].(api.Errno)
			}
		default:
			// A list may be nil or empty.
			if y := fmt.Sprint(x); y != "" && y != "0" && y != "[]" && y != "false" && y != "{0 []}" {
				return false, results[last].(api.Errno)
			}
		}
	}
	return true, results[last].(api.Errno)
}

func calls() []call {
	say := func(s api.Season, line string) (bool, api.Errno) {
		y, r, e := season.Say(s, line)
		return none(y, r, e)
	}
	play := func(s api.Season, lines []string) (bool, api.Errno) {
		y, l, e := season.Play(s, lines)
		return none(y, l, e)
	}
	keep := func(b api.Books, line string) (bool, api.Errno) {
		y, r, e := season.Keep(b, line)
		return none(y, r, e)
	}
	pair := func(x any, e api.Errno) (bool, api.Errno) { return none(x, e) }
	return []call{
		{"Check", "season", func(s api.Season, x asks) (bool, api.Errno) { return true, season.Check(s) }},
		{"Read", "line", func(s api.Season, x asks) (bool, api.Errno) { a, e := season.Read(x.line); return pair(a, e) }},
		{"Write", "act", func(s api.Season, x asks) (bool, api.Errno) { l, e := season.Write(x.act); return pair(l, e) }},
		{"Do", "season act do", func(s api.Season, x asks) (bool, api.Errno) { y, e := season.Do(s, x.act); return pair(y, e) }},
		// Of an act that is right a part is told beside the error.
		{"Why", "season act do", func(s api.Season, x asks) (bool, api.Errno) {
			part, e := season.Why(s, x.act)
			return part == 0 || right(x.act), e
		}},
		{"Say", "season", func(s api.Season, x asks) (bool, api.Errno) { return say(s, x.line) }},
		{"Play", "season lines", func(s api.Season, x asks) (bool, api.Errno) { return play(s, x.lines) }},
		{"Touches", "act", func(s api.Season, x asks) (bool, api.Errno) { l, e := season.Touches(x.act); return pair(l, e) }},
		{"Apart", "act other", func(s api.Season, x asks) (bool, api.Errno) {
			is, e := season.Apart(x.act, x.other)
			return pair(is, e)
		}},
		{"Grades", "season", func(s api.Season, x asks) (bool, api.Errno) { l, e := season.Grades(s); return pair(l, e) }},
		{"Keep", "books room", func(s api.Season, x asks) (bool, api.Errno) { return keep(api.Books{First: s, Lines: x.lines}, x.line) }},
		{"Replay", "books", func(s api.Season, x asks) (bool, api.Errno) {
			y, e := season.Replay(api.Books{First: s, Lines: x.lines})
			return pair(y, e)
		}},
		{"Pack", "season", func(s api.Season, x asks) (bool, api.Errno) { l, e := season.Pack(s); return pair(l, e) }},
		{"Unpack", "file", func(s api.Season, x asks) (bool, api.Errno) { y, e := season.Unpack(x.file); return pair(y, e) }},
	}
}

// right tells whether an act is, by the chapter's table.
func right(a api.Act) bool {
	nums := []int{-1, 6, 5, 3, 3, 6, 1, 1, 1, 1}
	if int(a.Verb) >= len(nums) || nums[a.Verb] != len(a.Nums) || a.Verb == 4 && a.Nums[2] > 1 {
		return false
	}
	return !slices.ContainsFunc(a.Nums, func(n int) bool { return n < 0 || n > 9999999 })
}

// P12.1, R5, R6: what is a season, and what is not.
func TestCheck(t *testing.T) {
	for name, x := range kinds() {
		s := changed(x.change)
		if e := season.Check(s); x.valid != (e == api.OK) || !x.valid && e != api.ErrSeason {
			t.Error(name, e)
		}
		for _, y := range calls() {
			is, e := y.do(s, asks{act: act(9), line: "stop", lines: slices.Repeat([]string{"jump"}, 41)})
			want := map[string]api.Errno{"season": api.ErrSeason, "books": api.ErrBooks}[strings.Fields(y.takes)[0]]
			if !x.valid && want != api.OK && (e != want || !is) || x.valid && e == api.ErrSeason {
				t.Error(name, y.name, is, e)
			}
		}
	}
}

// wanted is the error of a call, by the sentences of P12.1 and those of the call.
func wanted(y call, s api.Season, valid bool, x asks) api.Errno {
	for _, word := range strings.Fields(y.takes) {
		for _, z := range []struct {
			word string
			is   func() bool
			e    api.Errno
		}{
			{"season", func() bool { return valid }, api.ErrSeason},
			{"books", func() bool { return valid && len(x.lines) <= 40 && areDone(s, x.lines) }, api.ErrBooks},
			{"room", func() bool { return len(x.lines) < 40 }, api.ErrMany},
			{"lines", func() bool { return len(x.lines) <= 40 }, api.ErrMany},
			{"act", func() bool { return right(x.act) }, api.ErrLine},
			{"other", func() bool { return right(x.other) }, api.ErrLine},
			{"line", func() bool { return isLine(x.line) }, api.ErrLine},
			{"file", func() bool { return x.file == file(bare()) }, api.ErrFile},
		} {
			if z.word == word && !z.is() {
				return z.e
			}
		}
		if word == "do" {
			_, _, e := told(s, x.act)
			return e
		}
	}
	return api.OK
}

// areDone tells whether the replies to all lines are done, by the chapter's words.
func areDone(s api.Season, lines []string) bool {
	for _, line := range lines {
		a, e := season.Read(line)
		if !isLine(line) || e != api.OK {
			return false
		}
		if s, _, e = told(s, a); e != api.OK {
			return false
		}
	}
	return true
}

// everyAsk returns arguments of which some are valid.
func everyAsk() []asks {
	acts := []api.Act{{}, act(9, 3), act(9, 1), act(9, 7), act(9), act(1, 1, 1, 11, 0, 1, 4), act(1, 1, 1, 99, 0, 1, 4), act(1, 0, 1, 11, 0, 1, 4), act(4, 3, 12, 1), act(4, 3, 12, 2), act(3, 6, 12, 0), act(10, 1), act(5, 1, 1, 1, 2, 0, 2), act(5, 1, 1, 3, 2, 0, 2), act(2, 1, 1, 2, 1, 10000000), act(6, -1)}
	twenty := slices.Repeat([]string{"look 1 1 11 0 1 4", "unlook 1"}, 20)
	plays := [][]string{nil, {"jump"}, {"stop 4", "stop 4"}, {"stop 1"}, {"sell 1 1 2 5 500"}, {"sell 1 1 2 5 500", "sell 1 1 2 5 500"}, twenty, twenty[:39], append(slices.Clone(twenty), "stop 4"), slices.Repeat([]string{"jump"}, 40), slices.Repeat([]string{"jump"}, 41)}
	var l []asks
	for i, a := range acts {
		for k, lines := range plays {
			l = append(l, asks{a, acts[(i+k)%len(acts)], []string{"stop 3", "", "stop 1", "jump"}[(i+k)%4], []string{"", file(bare()), "\x00\x00"}[(i+k)%3], lines})
		}
	}
	return l
}

// P12.1, R1, R2: errors in their order, with zero values.
func TestErrorsInOrder(t *testing.T) {
	met := map[string]int{}
	broken := changed(func(s *api.Season) { s.Papers.Days = 0 })
	for _, s := range []api.Season{example(), unjust(), untrue(), full(), broken} {
		valid := !same(s, broken)
		for _, y := range calls() {
			for _, x := range everyAsk() {
				want := wanted(y, s, valid, x)
				is, e := y.do(s, x)
				if e != want || e != api.OK && !is {
					t.Fatal(y.name, x, is, e, want)
				}
				met[y.name+e.Error()]++
			}
		}
	}
	for _, y := range calls() {
		for _, word := range strings.Fields(y.takes) {
			for _, e := range map[string][]api.Errno{"season": {api.ErrSeason}, "books": {api.ErrBooks}, "room": {api.ErrMany}, "lines": {api.ErrMany}, "act": {api.ErrLine}, "other": {api.ErrLine}, "line": {api.ErrLine}, "file": {api.ErrFile}, "do": {api.ErrLook, api.ErrStrange, api.ErrUndecided, api.ErrUnjust, api.ErrHolder}}[word] {
				if met[y.name+e.Error()] < 3 || met[y.name+api.OK.Error()] < 3 {
					t.Error(y.name, e)
				}
			}
		}
	}
}

// P12.1, R5, R6: which acts are right, and which are not.
func TestActs(t *testing.T) {
	for i, x := range []struct {
		a  api.Act
		is bool
	}{
		{act(1, 1, 2, 3, 4, 5, 6), true}, {act(2, 1, 2, 3, 4, 5), true}, {act(3, 1, 2, 3), true}, {act(4, 1, 2, 1), true}, {act(4, 1, 2, 0), true}, {act(5, 1, 2, 3, 4, 5, 6), true}, {act(6, 1), true}, {act(7, 1), true}, {act(8, 1), true}, {act(9, 1), true},
		{act(1, 0, 0, 0, 0, 0, 0), true}, {act(1, 9999999, 9999999, 9999999, 9999999, 9999999, 9999999), true}, {act(2, 9999999, 9999999, 9999999, 9999999, 9999999), true}, {act(3, 9999999, 0, 9999999), true}, {act(4, 9999999, 9999999, 1), true}, {act(5, 0, 9999999, 0, 9999999, 0, 9999999), true}, {act(6, 9999999), true}, {act(7, 0), true}, {act(8, 9999999), true}, {act(9, 0), true},
		{api.Act{}, false}, {act(0, 1), false}, {act(10, 1), false}, {act(255, 1), false}, {act(128, 1), false}, {act(9), false}, {act(9, 1, 2), false}, {act(8), false}, {act(7, 1, 1), false}, {act(6), false}, {act(1, 1, 2, 3, 4, 5), false}, {act(1, 1, 2, 3, 4, 5, 6, 7), false}, {act(2, 1, 2, 3, 4), false}, {act(2, 1, 2, 3, 4, 5, 6), false}, {act(3, 1, 2), false}, {act(3, 1, 2, 3, 4), false}, {act(4, 1, 2), false}, {act(4, 1, 2, 1, 0), false}, {act(5, 1, 2, 3, 4, 5), false}, {act(5, 1, 2, 3, 4, 5, 6, 7), false},
		{act(4, 1, 2, 2), false}, {act(4, 1, 2, -1), false}, {act(4, 1, 2, 9999999), false}, {act(4, 2, -1, 1), false}, {act(4, math.MinInt, 2, 1), false}, {act(9, -1), false}, {act(9, 10000000), false}, {act(9, math.MinInt), false}, {act(9, math.MaxInt), false}, {act(6, -1), false}, {act(7, 10000000), false}, {act(8, math.MaxInt), false}, {act(1, 1, 2, 3, 4, 5, 10000000), false}, {act(1, -1, 2, 3, 4, 5, 6), false}, {act(2, 1, 2, math.MaxInt, 4, 5), false}, {act(3, 1, math.MinInt, 3), false}, {act(5, 1, 2, 3, 10000000, 5, 6), false}, {api.Act{Verb: 9, Nums: make([]int, 1<<20)}, false},
	} {
		want := api.ErrLine
		if x.is {
			want = api.OK
		}
		line, e := season.Write(x.a)
		l, f := season.Touches(x.a)
		if e != want || f != want || x.is != (line != "") || x.is != (len(l) > 0) {
			t.Error(i, line, e, l, f)
		}
		for _, y := range []api.Act{act(9, 1), act(1, 1, 2, 3, 4, 5, 6), act(8, 1)} {
			_, e := season.Apart(x.a, y)
			_, f := season.Apart(y, x.a)
			if e != want || f != want {
				t.Error(i, e, f)
			}
		}
		if is, e := testhelp.Zero(season.Apart(x.a, api.Act{})); !is || e != api.ErrLine {
			t.Error(i, is, e)
		}
		y, e := season.Do(example(), x.a)
		part, f := season.Why(example(), x.a)
		if x.is == (e == api.ErrLine) || x.is == (f == api.ErrLine) || !x.is && (part != 0 || !same(y, api.Season{})) {
			t.Error(i, y, e, part, f)
		}
	}
}

// P12.1: without truths of its parts a season is one all the same, and what has no rule is done.
func TestNoTruths(t *testing.T) {
	s := unjust()
	s.Papers.Passes, s.House.Found = untrue().Papers.Passes, leaky().House.Found
	for i, is := range []func() (bool, api.Errno){func() (bool, api.Errno) { return grade.Can(s.Desk) }, func() (bool, api.Errno) { return paper.Can(s.Papers) }, func() (bool, api.Errno) { return stack.Can(s.House) }} {
		if can, e := is(); can || e != api.OK {
			t.Fatal(i, can, e)
		}
	}
	lines := []string{"found 4 12 1", "sell 1 1 2 5 500", "unsell 1", "stop 1", "move 6 12 2", "look 4 2 12 0 1 4", "pass 2 1 1 2 0 4", "unlook 3", "look 4 2 12 0 1 4", "unpass 1", "pass 2 1 1 2 0 4"}
	want := []string{"done", "done", "done", "done", "done", "denied 124", "denied 124", "done", "done", "done", "done"}
	y, l, e := season.Play(s, lines)
	if !slices.Equal(l, want) || e != api.OK {
		t.Error(l, e)
	}
	if f, e := season.Pack(y); f != file(y) || e != api.OK {
		t.Error(f, e)
	}
}

// P12.1, P12.7: which books are valid, and which are not.
func TestBooks(t *testing.T) {
	twenty := slices.Repeat([]string{"look 1 1 11 0 1 4", "unlook 1"}, 20)
	for i, x := range []struct {
		first api.Season
		lines []string
		is    bool
	}{
		{example(), nil, true}, {example(), []string{}, true}, {example(), []string{"stop 2"}, true}, {example(), []string{"stop 2", "stop 2"}, true}, {example(), twenty, true}, {example(), twenty[:39], true}, {bare(), nil, true}, {full(), []string{"unlook 5"}, true}, {unjust(), []string{"unlook 3", "look 2 2 11 0 1 4"}, true}, {untrue(), []string{"sell 1 1 2 5 500"}, true},
		{api.Season{}, nil, false}, {api.Season{}, []string{"stop 2"}, false}, {changed(func(s *api.Season) { s.Chain.Houses = ints(2, 1) }), []string{"found 3 12 1"}, false}, {changed(func(s *api.Season) { s.House.Rain = ints(31) }), nil, false}, {example(), []string{""}, false}, {example(), []string{"jump"}, false}, {example(), []string{"done"}, false}, {example(), []string{"stop 1"}, false}, {example(), []string{"stop 2", "stop 1"}, false}, {example(), []string{"stop 1", "stop 2"}, false}, {example(), []string{"unlook 1", "look 1 1 11 0 1 4"}, false}, {example(), []string{"look 1 1 11 0 1 4", "stop 02"}, false}, {example(), append(slices.Clone(twenty), "stop 2"), false}, {example(), slices.Repeat([]string{"stop 2"}, 1<<16), false}, {unjust(), []string{"look 4 2 12 0 1 4"}, false},
	} {
		b := api.Books{First: x.first, Lines: x.lines}
		s, e := season.Replay(b)
		if x.is != (e == api.OK) || !x.is && (e != api.ErrBooks || !same(s, api.Season{})) || x.is && !same(s, behind(t, x.first, x.lines...)) {
			t.Error(i, s, e)
		}
		for _, line := range []string{"stop 2", "stop 1", "", "jump"} {
			more, r, e := season.Keep(b, line)
			switch {
			case !x.is && (e != api.ErrBooks || r != "" || !same(more, api.Books{})):
				t.Error(i, line, more, r, e)
			case x.is && len(x.lines) == 40 && (e != api.ErrMany || r != "" || !same(more, api.Books{})):
				t.Error(i, line, more, r, e)
			case x.is && len(x.lines) < 40 && (e != api.OK || r == "" || !same(more.First, x.first)):
				t.Error(i, line, more, r, e)
			}
		}
	}
}

// leaves are all numbers of a season, each of which may be set.
func leaves(x reflect.Value) []reflect.Value {
	var l []reflect.Value
	switch x.Kind() {
	case reflect.Struct:
		for i := range x.NumField() {
			l = append(l, leaves(x.Field(i))...)
		}
	case reflect.Slice:
		for i := range x.Len() {
			l = append(l, leaves(x.Index(i))...)
		}
	case reflect.Int:
		l = []reflect.Value{x}
	}
	return l
}

// P1, R5, R6, R7: whichever number of a season is another one, it is valid if its parts are, and each call answers.
func TestAnyNumber(t *testing.T) {
	met := map[api.Errno]int{}
	for _, s := range []api.Season{example(), everything()} {
		s = copied(s)
		for at, x := range leaves(reflect.ValueOf(&s).Elem()) {
			old := x.Int()
			for _, n := range ints(math.MinInt, -1, 1, 10000, 1<<32+1, math.MaxInt) {
				x.SetInt(int64(n))
				want := api.OK
				if grade.Check(s.Desk) != api.OK || chain.Check(s.Chain) != api.OK || stack.Check(s.House) != api.OK || paper.Check(s.Papers) != api.OK {
					want = api.ErrSeason
				}
				met[want]++
				if e := season.Check(s); e != want {
					t.Error(at, n, e)
				}
				for _, y := range calls() {
					_, e := y.do(s, asks{act: act(9, 2), other: act(9, 2), line: "unlook 5", lines: []string{"stop 2"}, file: file(s)})
					if is := strings.HasPrefix(y.takes, "season"); is && (e == api.ErrSeason) != (want == api.ErrSeason) || y.name == "Unpack" && (e == api.OK) != (want == api.OK) {
						t.Error(at, n, y.name, e)
					}
				}
			}
			x.SetInt(old)
		}
	}
	if met[api.OK] < 100 || met[api.ErrSeason] < 1000 {
		t.Error(met)
	}
}

// garbage is any value of a type by chance.
func garbage(c *rand.Rand, of reflect.Type) reflect.Value {
	x := reflect.New(of).Elem()
	switch of.Kind() {
	case reflect.Struct:
		for i := range of.NumField() {
			x.Field(i).Set(garbage(c, of.Field(i).Type))
		}
	case reflect.Slice:
		for range c.Intn(4) {
			x = reflect.Append(x, garbage(c, of.Elem()))
		}
	case reflect.Int:
		x.SetInt(int64(one(c, ints(math.MinInt, -1, 0, 1, 1, 2, 3, 10, 10000, math.MaxInt))))
	case reflect.Uint8:
		x.SetUint(uint64(c.Intn(256)))
	case reflect.Bool:
		x.SetBool(c.Intn(2) == 0)
	case reflect.String:
		x.SetString(one(c, []string{"", "stop 1", "look 1 1 1 1 1 1", "\x00\x00\x00", "move 1 1 1"}))
	}
	return x
}

// P1, R6, R7: each call answers whatever its arguments are.
func TestGarbage(t *testing.T) {
	c := rand.New(rand.NewSource(7))
	for range 3000 {
		s := garbage(c, reflect.TypeFor[api.Season]()).Interface().(api.Season)
		a := garbage(c, reflect.TypeFor[api.Act]()).Interface().(api.Act)
		a.Verb = uint8(c.Intn(12))
		b := garbage(c, reflect.TypeFor[api.Books]()).Interface().(api.Books)
		valid := season.Check(s)
		for _, y := range calls() {
			is, e := y.do(s, asks{a, a, one(c, append(b.Lines, "")), file(s), b.Lines})
			if valid == api.ErrSeason && strings.HasPrefix(y.takes, "season") && (e != api.ErrSeason || !is) || e != api.OK && !is {
				t.Fatal(y.name, s, a, is, e)
			}
		}
	}
}
