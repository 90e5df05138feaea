package box_test

import (
	"math"
	"slices"
	"testing"

	"middling/api"
	"middling/box"
)

// call is one of the functions, for its errors: whether all its other results are zero is told with its error.
type call struct {
	name        string
	boxes       int
	month, true bool
	do          func(r api.Room, a, b, month int) (bool, api.Errno)
}

func zero(r api.Room) bool {
	return r.Months == 0 && r.Step == 0 && len(r.Ages) == 0 && len(r.Boxes) == 0 && len(r.Matches) == 0
}

func spanCalls() []call {
	return []call{
		{"Yellow", 1, true, true, func(r api.Room, a, b, month int) (bool, api.Errno) {
			s, e := box.Yellow(r, a, month)
			return s == api.Span{}, e
		}},
		{"Differ", 2, true, true, func(r api.Room, a, b, month int) (bool, api.Errno) {
			s, e := box.Differ(r, a, b, month)
			return s == api.Span{}, e
		}},
		{"Known", 1, true, true, func(r api.Room, a, b, month int) (bool, api.Errno) {
			k, e := box.Known(r, a, month, -1)
			return k == 0, e
		}},
		{"Order", 2, true, true, func(r api.Room, a, b, month int) (bool, api.Errno) {
			k, e := box.Order(r, a, b, month)
			return k == 0, e
		}},
		{"Perhaps", 1, false, true, func(r api.Room, a, b, month int) (bool, api.Errno) {
			m, e := box.Perhaps(r, a, 0)
			return m == 0, e
		}},
		{"Surely", 1, false, true, func(r api.Room, a, b, month int) (bool, api.Errno) {
			m, e := box.Surely(r, a, 0)
			return m == 0, e
		}},
		{"Why", 1, true, true, func(r api.Room, a, b, month int) (bool, api.Errno) {
			l, e := box.Why(r, a, month)
			return len(l) == 0, e
		}},
		{"Rests", 1, true, true, func(r api.Room, a, b, month int) (bool, api.Errno) {
			l, e := box.Rests(r, a, month)
			return len(l) == 0, e
		}},
	}
}

func roomCalls() []call {
	return []call{
		{"Due", 0, false, true, func(r api.Room, a, b, month int) (bool, api.Errno) {
			m, l, e := box.Due(r, 0)
			return m == 0 && len(l) == 0, e
		}},
		{"Fresh", 0, true, true, func(r api.Room, a, b, month int) (bool, api.Errno) {
			l, e := box.Fresh(r, month)
			return len(l) == 0, e
		}},
		{"Ask", 0, true, true, func(r api.Room, a, b, month int) (bool, api.Errno) {
			x, y, w, e := box.Ask(r, month)
			return x == 0 && y == 0 && w == 0, e
		}},
		{"Check", 0, false, false, func(r api.Room, a, b, month int) (bool, api.Errno) {
			return true, box.Check(r)
		}},
		{"Can", 0, false, false, func(r api.Room, a, b, month int) (bool, api.Errno) {
			is, e := box.Can(r)
			return !is, e
		}},
		{"Wrong", 0, false, false, func(r api.Room, a, b, month int) (bool, api.Errno) {
			l, e := box.Wrong(r)
			return len(l) == 0, e
		}},
		{"Put", 0, false, false, func(r api.Room, a, b, month int) (bool, api.Errno) {
			y, e := box.Put(r, match(7, 3, 2, 1, -60, 60))
			return zero(y), e
		}},
		{"Strike", 0, false, false, func(r api.Room, a, b, month int) (bool, api.Errno) {
			y, e := box.Strike(r, nil)
			return zero(y), e
		}},
		{"Add", 0, false, false, func(r api.Room, a, b, month int) (bool, api.Errno) {
			y, e := box.Add(r, api.Box{Id: 3})
			return zero(y), e
		}},
	}
}

func calls() []call { return append(spanCalls(), roomCalls()...) }

// P1.1, R5, R6: what is a room, and what is none.
func TestCheck(t *testing.T) {
	for name, x := range map[string]struct {
		change func(r *api.Room)
		valid  bool
	}{
		"as it is":              {func(r *api.Room) {}, true},
		"the least":             {func(r *api.Room) { *r = api.Room{Months: 1, Ages: []api.Span{{}}} }, true},
		"no value":              {func(r *api.Room) { *r = api.Room{} }, false},
		"no month":              {func(r *api.Room) { *r = api.Room{Months: 0, Ages: []api.Span{}} }, false},
		"months below 0":        {func(r *api.Room) { r.Months = -1 }, false},
		"all months":            {func(r *api.Room) { *r = api.Room{Months: 12, Ages: make([]api.Span, 12)} }, true},
		"a month too many":      {func(r *api.Room) { *r = api.Room{Months: 13, Ages: make([]api.Span, 13)} }, false},
		"great months":          {func(r *api.Room) { r.Months = math.MaxInt }, false},
		"an age too few":        {func(r *api.Room) { r.Ages = r.Ages[:3] }, false},
		"an age too many":       {func(r *api.Room) { r.Ages = append(r.Ages, span(3, 12)) }, false},
		"step 0":                {func(r *api.Room) { r.Step = 0 }, true},
		"step below 0":          {func(r *api.Room) { r.Step = -1 }, false},
		"step 60":               {func(r *api.Room) { r.Step = 60 }, true},
		"step 61":               {func(r *api.Room) { r.Step = 61 }, false},
		"age to 60":             {func(r *api.Room) { r.Ages[3] = span(60, 60) }, true},
		"age to 61":             {func(r *api.Room) { r.Ages[3] = span(3, 61) }, false},
		"age from -1":           {func(r *api.Room) { r.Ages[0] = span(-1, 0) }, false},
		"age that ends first":   {func(r *api.Room) { r.Ages[2] = span(8, 7) }, false},
		"great age":             {func(r *api.Room) { r.Ages[2] = span(math.MinInt, math.MaxInt) }, false},
		"no box":                {func(r *api.Room) { r.Boxes, r.Matches = nil, nil }, true},
		"box 0":                 {func(r *api.Room) { r.Boxes[0].Id, r.Matches = 0, nil }, false},
		"box below 0":           {func(r *api.Room) { r.Boxes[0].Id, r.Matches = math.MinInt, nil }, false},
		"box 9999":              {func(r *api.Room) { r.Boxes[1].Id, r.Matches = 9999, nil }, true},
		"box 10000":             {func(r *api.Room) { r.Boxes[1].Id, r.Matches = 10000, nil }, false},
		"a box twice":           {func(r *api.Room) { r.Boxes[1].Id, r.Matches = 1, nil }, false},
		"boxes the wrong way":   {func(r *api.Room) { slices.Reverse(r.Boxes) }, false},
		"made below 0":          {func(r *api.Room) { r.Boxes[0].Made = -1 }, false},
		"made at last":          {func(r *api.Room) { r.Boxes[0].Made, r.Matches = 3, nil }, true},
		"made too late":         {func(r *api.Room) { r.Boxes[0].Made, r.Matches = 4, nil }, false},
		"four boxes":            {func(r *api.Room) { r.Boxes = append(r.Boxes, api.Box{Id: 3}, api.Box{Id: 4}) }, true},
		"five boxes":            {func(r *api.Room) { r.Boxes = append(r.Boxes, api.Box{Id: 3}, api.Box{Id: 4}, api.Box{Id: 5}) }, false},
		"no match":              {func(r *api.Room) { r.Matches = []api.Match{} }, true},
		"match 0":               {func(r *api.Room) { r.Matches[0].Number = 0 }, false},
		"match 9999":            {func(r *api.Room) { r.Matches[0].Number = 9999 }, true},
		"match 10000":           {func(r *api.Room) { r.Matches[0].Number = 10000 }, false},
		"a match twice":         {func(r *api.Room) { r.Matches = append(r.Matches, first()) }, false},
		"matches the wrong way": {func(r *api.Room) { r.Matches = []api.Match{second(), first()} }, false},
		"of one box":            {func(r *api.Room) { r.Matches[0].B = 1 }, false},
		"A of no box":           {func(r *api.Room) { r.Matches[0].A = 3 }, false},
		"B of no box":           {func(r *api.Room) { r.Matches[0].B = 0 }, false},
		"before B was made":     {func(r *api.Room) { r.Matches[0].Month = 0 }, false},
		"before A was made":     {func(r *api.Room) { r.Matches[0] = match(1, 0, 2, 1, 0, 1) }, false},
		"as B was made":         {func(r *api.Room) { r.Matches[0].Month = 1 }, true},
		"matched at last":       {func(r *api.Room) { r.Matches[0].Month = 3 }, true},
		"matched too late":      {func(r *api.Room) { r.Matches[0].Month = 4 }, false},
		"matched below 0":       {func(r *api.Room) { r.Matches[0].Month = -1 }, false},
		"by all":                {func(r *api.Room) { r.Matches[0].By = span(-60, 60) }, true},
		"by 60":                 {func(r *api.Room) { r.Matches[0].By = span(60, 60) }, true},
		"by -60":                {func(r *api.Room) { r.Matches[0].By = span(-60, -60) }, true},
		"by -61":                {func(r *api.Room) { r.Matches[0].By = span(-61, 0) }, false},
		"by 61":                 {func(r *api.Room) { r.Matches[0].By = span(0, 61) }, false},
		"by what ends first":    {func(r *api.Room) { r.Matches[0].By = span(1, 0) }, false},
		"eight matches":         {func(r *api.Room) { r.Matches = many(8) }, true},
		"nine matches":          {func(r *api.Room) { r.Matches = many(9) }, false},
		"no truth":              {func(r *api.Room) { r.Matches = append(r.Matches, second()) }, true},
	} {
		r := example(first())
		x.change(&r)
		want := api.OK
		if !x.valid {
			want = api.ErrRoom
		}
		if e := box.Check(r); e != want {
			t.Error(name, e)
		}
		for _, c := range calls() {
			is, e := c.do(r, 0, 0, -1)
			if !x.valid && (e != api.ErrRoom || !is) || x.valid && e == api.ErrRoom {
				t.Error(name, c.name, is, e)
			}
		}
	}
}

// many are matches that say nothing, with the Numbers 10, 20, and so on.
func many(n int) []api.Match {
	var l []api.Match
	for i := range n {
		l = append(l, match(10*i+10, 3, 1, 2, -60, 60))
	}
	return l
}

// P1.1, R1, R2: errors in their order, with zero values.
func TestErrorsInOrder(t *testing.T) {
	broken := example(first())
	broken.Step = -1
	for _, c := range calls() {
		for _, r := range []api.Room{example(first()), example(first(), second()), broken} {
			for _, boxes := range [][]int{{1, 2}, {2, 1}, {2, 2}, {9, 1}, {9, 9}, {1, 9}, {0, -1}} {
				for _, month := range []int{math.MinInt, -1, 0, 1, 3, 4, math.MaxInt} {
					want := wanted(c, r, boxes[:c.boxes], month)
					is, e := c.do(r, boxes[0], boxes[1], month)
					if e != want || e != api.OK && !is {
						t.Error(c.name, len(r.Matches), boxes, month, is, e, want)
					}
				}
			}
		}
	}
}

// wanted is the error of a call, by the sentences of P1.1 and what P1.2 to P1.5 add.
func wanted(c call, r api.Room, boxes []int, month int) api.Errno {
	made := map[int]int{1: 0, 2: 1}
	since := 0
	if r.Step < 0 {
		return api.ErrRoom
	}
	for _, b := range boxes {
		if m, ok := made[b]; ok {
			since = max(since, m)
		} else {
			return api.ErrNone
		}
	}
	switch {
	case c.month && (month < since || month > 3):
		return api.ErrThere
	case c.true && len(r.Matches) > 1:
		return api.ErrBad
	case c.boxes == 2 && boxes[0] == boxes[1]:
		return api.ErrArg
	case c.name == "Ask" && month == 0:
		return api.ErrNone
	}
	return api.OK
}

// P1.1: without a truth these answer all the same.
func TestNoTruth(t *testing.T) {
	r := example(first(), second())
	if is, e := box.Can(r); is || e != api.OK {
		t.Error(is, e)
	}
	if l, e := box.Wrong(r); !slices.Equal(l, ints(1)) || e != api.OK {
		t.Error(l, e)
	}
	if y, e := box.Put(r, match(3, 3, 1, 2, 0, 0)); len(y.Matches) != 3 || e != api.OK {
		t.Error(y, e)
	}
	if y, e := box.Strike(r, ints(2)); len(y.Matches) != 1 || e != api.OK {
		t.Error(y, e)
	}
	if y, e := box.Add(r, api.Box{Id: 3}); len(y.Boxes) != 3 || e != api.OK {
		t.Error(y, e)
	}
}
