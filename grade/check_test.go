package grade_test

import (
	"math"
	"slices"
	"testing"

	"middling/api"
	"middling/grade"
	"middling/testhelp"
)

// asks are the arguments of a call.
type asks struct{ classer, other, bale, second, number, month, box int }

// call is one of the functions, for its errors: do tells whether all its other results are zero, with its error.
type call struct {
	name                       string
	classers, bales            int
	number, place, room, truth bool
	do                         func(d api.Desk, x asks) (bool, api.Errno)
}

func none(l []int, e api.Errno) (bool, api.Errno) { return len(l) == 0, e }

func calls() []call {
	return append([]call{
		{"Bounds", 0, 0, true, false, true, false, func(d api.Desk, x asks) (bool, api.Errno) { return testhelp.Zero(grade.Bounds(d, x.number)) }},
		{"Points", 0, 1, false, false, true, true, func(d api.Desk, x asks) (bool, api.Errno) { return testhelp.Zero(grade.Points(d, x.bale)) }},
		{"Grades", 0, 1, false, false, true, true, func(d api.Desk, x asks) (bool, api.Errno) { return testhelp.Zero(grade.Grades(d, x.bale)) }},
		{"Better", 0, 2, false, false, true, true, func(d api.Desk, x asks) (bool, api.Errno) { return testhelp.Zero(grade.Better(d, x.bale, x.second)) }},
		{"Lean", 1, 0, false, false, true, true, func(d api.Desk, x asks) (bool, api.Errno) { return testhelp.Zero(grade.Lean(d, x.classer)) }},
		{"Differ", 2, 0, false, false, true, true, func(d api.Desk, x asks) (bool, api.Errno) { return testhelp.Zero(grade.Differ(d, x.classer, x.other)) }},
		{"Leans", 1, 0, false, false, true, true, func(d api.Desk, x asks) (bool, api.Errno) { return testhelp.Zero(grade.Leans(d, x.classer)) }},
		{"Proof", 1, 0, false, false, true, true, func(d api.Desk, x asks) (bool, api.Errno) { return none(grade.Proof(d, x.classer)) }},
		{"Says", 1, 1, false, true, true, true, func(d api.Desk, x asks) (bool, api.Errno) {
			return testhelp.Zero(grade.Says(d, x.classer, x.bale, x.month, x.box))
		}},
		{"Why", 0, 1, false, false, true, true, func(d api.Desk, x asks) (bool, api.Errno) { return none(grade.Why(d, x.bale)) }},
		{"Ask", 0, 0, false, true, true, true, func(d api.Desk, x asks) (bool, api.Errno) {
			a, b, n, e := grade.Ask(d, x.month, x.box)
			return a == 0 && b == 0 && n == 0, e
		}},
	}, freeCalls()...)
}

// freeCalls are those that answer without a truth too.
func freeCalls() []call {
	return []call{
		{"Check", 0, 0, false, false, false, false, func(d api.Desk, x asks) (bool, api.Errno) { return true, grade.Check(d) }},
		{"Can", 0, 0, false, false, false, false, func(d api.Desk, x asks) (bool, api.Errno) { return testhelp.Zero(grade.Can(d)) }},
		{"Decide", 0, 1, false, false, false, false, func(d api.Desk, x asks) (bool, api.Errno) { return testhelp.Zero(grade.Decide(d, x.bale)) }},
		{"Third", 0, 0, false, false, false, false, func(d api.Desk, x asks) (bool, api.Errno) { return none(grade.Third(d)) }},
		{"Wrong", 0, 0, false, false, true, false, func(d api.Desk, x asks) (bool, api.Errno) { return none(grade.Wrong(d)) }},
		{"Put", 0, 0, false, false, false, false, func(d api.Desk, x asks) (bool, api.Errno) {
			y, e := grade.Put(d, look(9, 3, 102, 3, 2, 9))
			return zero(y), e
		}},
		{"Strike", 0, 0, false, false, false, false, func(d api.Desk, x asks) (bool, api.Errno) {
			y, e := grade.Strike(d, nil)
			return zero(y), e
		}},
	}
}

// many are looks that say something just of the bale 103, with the Numbers 10, 20, and so on.
func many(n int) []api.Look {
	var l []api.Look
	for i := range n {
		l = append(l, look(10*i+10, 1, 103, 3, 1, 5))
	}
	return l
}

// P2.1, R5, R6: what is a desk, and what is none.
func TestCheck(t *testing.T) {
	for name, x := range map[string]struct {
		change func(d *api.Desk)
		valid  bool
	}{
		"as it is":                  {func(d *api.Desk) {}, true},
		"the least":                 {func(d *api.Desk) { *d = api.Desk{Room: api.Room{Months: 1, Ages: []api.Span{{}}}} }, true},
		"no value":                  {func(d *api.Desk) { *d = api.Desk{} }, false},
		"no valid room":             {func(d *api.Desk) { d.Room.Step = 61 }, false},
		"a room without a truth":    {func(d *api.Desk) { d.Room.Step = 0 }, true},
		"lean 0":                    {func(d *api.Desk) { d.Lean = 0 }, true},
		"lean below 0":              {func(d *api.Desk) { d.Lean = -1 }, false},
		"lean 30":                   {func(d *api.Desk) { d.Lean = 30 }, true},
		"lean 31":                   {func(d *api.Desk) { d.Lean = 31 }, false},
		"great lean":                {func(d *api.Desk) { d.Lean = math.MaxInt }, false},
		"no bale":                   {func(d *api.Desk) { d.Bales, d.Looks = nil, nil }, true},
		"six bales":                 {func(d *api.Desk) { d.Bales = ints(1, 101, 102, 103, 104, 9999) }, true},
		"seven bales":               {func(d *api.Desk) { d.Bales = ints(1, 2, 101, 102, 103, 104, 9999) }, false},
		"bale 0":                    {func(d *api.Desk) { d.Bales = ints(0, 101, 102) }, false},
		"bale 10000":                {func(d *api.Desk) { d.Bales = ints(101, 102, 10000) }, false},
		"a bale twice":              {func(d *api.Desk) { d.Bales = ints(101, 102, 102) }, false},
		"bales the wrong way":       {func(d *api.Desk) { d.Bales = ints(102, 101) }, false},
		"no classer":                {func(d *api.Desk) { d.Classers, d.Looks = nil, nil }, true},
		"four classers":             {func(d *api.Desk) { d.Classers = ints(1, 2, 3, 9999) }, true},
		"five classers":             {func(d *api.Desk) { d.Classers = ints(1, 2, 3, 4, 5) }, false},
		"classer 0":                 {func(d *api.Desk) { d.Classers = ints(0, 1, 2, 3) }, false},
		"classer 10000":             {func(d *api.Desk) { d.Classers = ints(1, 2, 3, 10000) }, false},
		"a classer twice":           {func(d *api.Desk) { d.Classers = ints(1, 2, 3, 3) }, false},
		"classers the wrong way":    {func(d *api.Desk) { d.Classers = ints(2, 1, 3) }, false},
		"no look":                   {func(d *api.Desk) { d.Looks = []api.Look{} }, true},
		"look 0":                    {func(d *api.Desk) { d.Looks[0].Number = 0 }, false},
		"look below 0":              {func(d *api.Desk) { d.Looks[0].Number = math.MinInt }, false},
		"look 9999":                 {func(d *api.Desk) { d.Looks[4].Number = 9999 }, true},
		"look 10000":                {func(d *api.Desk) { d.Looks[4].Number = 10000 }, false},
		"a look twice":              {func(d *api.Desk) { d.Looks[1].Number = 1 }, false},
		"looks the wrong way":       {func(d *api.Desk) { slices.Reverse(d.Looks) }, false},
		"twelve looks":              {func(d *api.Desk) { d.Looks = many(12) }, true},
		"thirteen looks":            {func(d *api.Desk) { d.Looks = many(13) }, false},
		"of no classer":             {func(d *api.Desk) { d.Looks[0].Classer = 4 }, false},
		"of no bale":                {func(d *api.Desk) { d.Looks[0].Bale = 1 }, false},
		"beside no box":             {func(d *api.Desk) { d.Looks[0].Box = 3 }, false},
		"before the box was made":   {func(d *api.Desk) { d.Looks[1].Month = 0 }, false},
		"at last":                   {func(d *api.Desk) { d.Looks[0].Month = 3 }, true},
		"too late":                  {func(d *api.Desk) { d.Looks[0].Month = 4 }, false},
		"month below 0":             {func(d *api.Desk) { d.Looks[0].Month = -1 }, false},
		"great month":               {func(d *api.Desk) { d.Looks[0].Month = math.MaxInt }, false},
		"said 1":                    {func(d *api.Desk) { d.Looks[0].Said = 1 }, true},
		"said 9":                    {func(d *api.Desk) { d.Looks[0].Said = 9 }, true},
		"said 0":                    {func(d *api.Desk) { d.Looks[0].Said = 0 }, false},
		"said 10":                   {func(d *api.Desk) { d.Looks[4].Said = 10 }, false},
		"great said":                {func(d *api.Desk) { d.Looks[4].Said = math.MinInt }, false},
		"no truth":                  {func(d *api.Desk) { *d = odd() }, true},
		"a look that is never just": {func(d *api.Desk) { *d = old(0, 9) }, true},
	} {
		d := example()
		x.change(&d)
		want := api.OK
		if !x.valid {
			want = api.ErrDesk
		}
		if e := grade.Check(d); e != want {
			t.Error(name, e)
		}
		for _, c := range calls() {
			is, e := c.do(d, asks{month: -1})
			if !x.valid && (e != api.ErrDesk || !is) || x.valid && e == api.ErrDesk {
				t.Error(name, c.name, is, e)
			}
		}
	}
}

// P2.1, R1, R2: errors in their order, with zero values.
func TestErrorsInOrder(t *testing.T) {
	broken := example()
	broken.Lean = -1
	empty := example()
	empty.Looks, empty.Classers = nil, nil
	for _, c := range calls() {
		for i, d := range []api.Desk{example(), odd(), dry(), broken, empty} {
			for _, x := range everyAsk() {
				want := wanted(c, d, i, x)
				is, e := c.do(d, x)
				if e != want || e != api.OK && !is {
					t.Error(c.name, i, x, is, e, want)
				}
			}
		}
	}
}

// everyAsk returns arguments of which some are valid.
func everyAsk() []asks {
	var l []asks
	for _, who := range [][2]int{{1, 3}, {3, 3}, {4, 1}, {1, 0}} {
		for _, what := range [][2]int{{101, 102}, {102, 102}, {104, 101}, {101, -1}} {
			for _, place := range [][2]int{{0, 1}, {0, 2}, {3, 2}, {4, 1}, {-1, 1}, {1, 3}, {math.MaxInt, 2}, {math.MinInt, 0}} {
				for _, n := range ints(1, 5, 9, 0, math.MinInt) {
					l = append(l, asks{who[0], who[1], what[0], what[1], n, place[0], place[1]})
				}
			}
		}
	}
	return l
}

// wanted is the error of a call on one of the desks of TestErrorsInOrder, by the sentences of P2.1 and what P2.2 to P2.6 add.
func wanted(c call, d api.Desk, desk int, x asks) api.Errno {
	has := func(l []int, asked ...int) bool {
		return !slices.ContainsFunc(asked, func(n int) bool { return !slices.Contains(l, n) })
	}
	made, there := map[int]int{1: 0, 2: 1}[x.box], x.box == 1 || x.box == 2
	switch {
	case desk == 3:
		return api.ErrDesk
	case !has(d.Classers, ints(x.classer, x.other)[:c.classers]...) || !has(d.Bales, ints(x.bale, x.second)[:c.bales]...):
		return api.ErrNone
	case c.number && !has(numbers(d), x.number):
		return api.ErrLook
	case c.place && !there:
		return api.ErrNone
	case c.place && (x.month < made || x.month > 3):
		return api.ErrThere
	case c.room && desk == 2 || c.truth && desk == 1:
		return api.ErrBad
	}
	return added(c, desk, x)
}

// added is the error that is told of by a call itself.
func added(c call, desk int, x asks) api.Errno {
	switch {
	case c.name == "Decide" && (x.bale != 101 || desk == 4):
		return api.ErrNone
	case c.name == "Ask" && desk == 4:
		return api.ErrNone
	case c.name == "Put" && desk == 4:
		return api.ErrLook
	}
	return api.OK
}

// P2.1: without a truth these answer all the same.
func TestNoTruth(t *testing.T) {
	for i, d := range []api.Desk{odd(), dry()} {
		if is, e := grade.Can(d); is || e != api.OK {
			t.Error(i, is, e)
		}
		if n, e := grade.Decide(d, 101); n != 5 || e != api.OK {
			t.Error(i, n, e)
		}
		if l, e := grade.Third(d); !slices.Contains(l, 102) || e != api.OK {
			t.Error(i, l, e)
		}
		if y, e := grade.Put(d, look(9, 1, 103, 0, 1, 1)); len(y.Looks) != len(d.Looks)+1 || e != api.OK {
			t.Error(i, y, e)
		}
		if y, e := grade.Strike(d, ints(2)); len(y.Looks) != len(d.Looks)-1 || e != api.OK {
			t.Error(i, y, e)
		}
	}
	if s, e := grade.Bounds(odd(), 6); s != span(80, 104) || e != api.OK {
		t.Error(s, e)
	}
	if l, e := grade.Wrong(odd()); !slices.Equal(l, ints(6)) || e != api.OK {
		t.Error(l, e)
	}
}
