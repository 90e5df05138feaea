package season_test

import (
	"slices"
	"testing"

	"middling/api"
	"middling/season"
)

// crowded is the example, in which as many moves, and as much found, is written as there can be.
func crowded() api.Season {
	return changed(func(s *api.Season) {
		for n := range 7 {
			s.House.Moves = append(s.House.Moves, api.Move{Day: 7, Bale: 41, To: []int{1, 2}[n%2]})
		}
		for n := range 6 {
			s.House.Found = append(s.House.Found, api.Found{Number: n + 3, Bale: 12})
		}
	})
}

// P12.3: what is done, and what is denied, by which part.
func TestDoAndWhy(t *testing.T) {
	two := []string{"look 1 1 11 0 1 4", "look 2 2 11 0 1 4"}
	went := []string{"pass 1 1 1 2 0 2"}
	around := []string{"pass 1 1 1 2 0 2", "pass 2 1 2 3 1 4"}
	for i, x := range []struct {
		s      api.Season
		before []string
		a      api.Act
		part   int
		e      api.Errno
	}{
		// Looks: the desk, then the house, then the truth.
		{example(), nil, act(1, 1, 1, 11, 0, 1, 4), 0, api.OK}, {example(), nil, act(1, 1, 1, 98, 0, 1, 4), 1, api.ErrLook}, {example(), nil, act(1, 0, 1, 11, 0, 1, 4), 1, api.ErrLook}, {example(), nil, act(1, 10000, 1, 11, 0, 1, 4), 1, api.ErrLook}, {example(), nil, act(1, 1, 4, 11, 0, 1, 4), 1, api.ErrLook}, {example(), nil, act(1, 1, 1, 11, 0, 2, 4), 1, api.ErrLook}, {example(), nil, act(1, 1, 1, 11, 4, 1, 4), 1, api.ErrLook}, {example(), nil, act(1, 1, 1, 11, 0, 1, 10), 1, api.ErrLook}, {example(), nil, act(1, 1, 1, 99, 0, 1, 10), 1, api.ErrLook}, {example(), two, act(1, 1, 1, 11, 0, 1, 4), 1, api.ErrLook}, {full(), nil, act(1, 1, 1, 1, 0, 1, 4), 1, api.ErrFull}, {full(), nil, act(1, 0, 0, 0, 0, 0, 0), 1, api.ErrFull},
		{example(), nil, act(1, 1, 1, 99, 0, 1, 4), 5, api.ErrStrange}, {unjust(), nil, act(1, 2, 1, 99, 0, 1, 4), 5, api.ErrStrange}, {unjust(), nil, act(1, 2, 1, 12, 0, 1, 4), 5, api.ErrUnjust}, {example(), two, act(1, 3, 1, 11, 0, 1, 9), 5, api.ErrUnjust}, {example(), two, act(1, 3, 1, 11, 0, 1, 4), 0, api.OK}, {example(), two, act(1, 3, 3, 11, 0, 1, 5), 0, api.OK},
		// A bale that went out, that came in, or that only somebody's is.
		{changed(func(s *api.Season) { s.Desk.Bales = ints(22) }), nil, act(1, 1, 1, 22, 0, 1, 4), 0, api.OK}, {changed(func(s *api.Season) { s.Desk.Bales = ints(41) }), nil, act(1, 1, 1, 41, 0, 1, 4), 0, api.OK}, {changed(func(s *api.Season) { s.Desk.Bales, s.House.Moves = ints(41), nil }), nil, act(1, 1, 1, 41, 0, 1, 4), 5, api.ErrStrange}, {changed(func(s *api.Season) { s.Desk.Bales, s.House.Moves = ints(41), nil }), []string{"move 30 41 2"}, act(1, 1, 1, 41, 0, 1, 4), 0, api.OK},
		// Moves: the house, then whether a bale that goes out is decided, if it is one of the desk.
		{example(), nil, act(3, 6, 12, 0), 5, api.ErrUndecided}, {example(), nil, act(3, 6, 12, 2), 0, api.OK}, {example(), nil, act(3, 6, 41, 0), 0, api.OK}, {example(), nil, act(3, 6, 11, 0), 3, api.ErrMove}, {example(), nil, act(3, 4, 12, 0), 3, api.ErrMove}, {example(), nil, act(3, 6, 22, 0), 3, api.ErrMove}, {example(), nil, act(3, 6, 99, 0), 3, api.ErrMove}, {example(), nil, act(3, 31, 12, 0), 3, api.ErrMove}, {example(), nil, act(3, 6, 12, 9), 3, api.ErrMove}, {crowded(), nil, act(3, 7, 12, 0), 3, api.ErrFull},
		{example(), []string{"look 1 1 12 0 1 4", "look 2 2 12 0 1 4"}, act(3, 6, 12, 0), 0, api.OK}, {example(), []string{"look 1 1 12 0 1 4", "look 2 2 12 0 1 5"}, act(3, 6, 12, 0), 5, api.ErrUndecided}, {example(), []string{"look 1 1 12 0 1 4", "look 2 2 12 0 1 5", "look 3 3 12 0 1 5"}, act(3, 6, 12, 0), 0, api.OK}, {example(), []string{"look 1 1 12 0 1 4", "look 2 1 12 0 1 4"}, act(3, 6, 12, 0), 5, api.ErrUndecided}, {example(), two, act(3, 6, 12, 0), 5, api.ErrUndecided}, {example(), []string{"look 1 1 12 0 1 4", "look 2 2 12 0 1 4", "unlook 2"}, act(3, 6, 12, 0), 5, api.ErrUndecided}, {unjust(), nil, act(3, 6, 12, 0), 5, api.ErrUndecided}, {unjust(), []string{"move 6 12 2"}, act(3, 6, 11, 0), 5, api.ErrUndecided}, {unjust(), []string{"move 6 12 2"}, act(3, 6, 11, 3), 0, api.OK},
		// What is found: the house alone.
		{example(), nil, act(4, 3, 12, 1), 0, api.OK}, {example(), nil, act(4, 3, 11, 1), 0, api.OK}, {leaky(), nil, act(4, 4, 11, 0), 0, api.OK}, {example(), nil, act(4, 2, 12, 0), 3, api.ErrFound}, {example(), nil, act(4, 3, 99, 0), 3, api.ErrFound}, {example(), nil, act(4, 0, 12, 0), 3, api.ErrFound}, {crowded(), nil, act(4, 9, 12, 0), 3, api.ErrFull},
		// Passes: the papers, then the chain, then the truth.
		{example(), nil, act(5, 1, 1, 1, 2, 0, 2), 0, api.OK}, {example(), nil, act(5, 1, 2, 1, 2, 0, 2), 4, api.ErrPass}, {example(), nil, act(5, 1, 1, 1, 1, 0, 2), 4, api.ErrPass}, {example(), nil, act(5, 1, 1, 1, 2, 0, 5), 4, api.ErrPass}, {example(), nil, act(5, 1, 1, 1, 2, 2, 1), 4, api.ErrPass}, {example(), nil, act(5, 1, 2, 1, 9, 0, 2), 4, api.ErrPass}, {full(), nil, act(5, 5, 9999, 1, 2, 9, 9), 4, api.ErrFull}, {example(), nil, act(5, 1, 1, 1, 9, 0, 2), 5, api.ErrStrange}, {example(), nil, act(5, 1, 1, 3, 9, 0, 2), 5, api.ErrStrange}, {untrue(), nil, act(5, 2, 1, 1, 9, 0, 2), 5, api.ErrStrange}, {example(), nil, act(5, 1, 1, 3, 2, 0, 2), 5, api.ErrUnjust}, {example(), nil, act(5, 1, 1, 9, 2, 0, 2), 5, api.ErrUnjust}, {untrue(), nil, act(5, 2, 1, 1, 2, 0, 4), 5, api.ErrUnjust}, {untrue(), nil, act(5, 2, 1, 1, 3, 0, 4), 0, api.OK}, {example(), went, act(5, 2, 1, 1, 3, 1, 2), 5, api.ErrUnjust}, {example(), went, act(5, 2, 1, 2, 3, 1, 4), 0, api.OK}, {changed(func(s *api.Season) { s.Papers.Papers[0].Holder = 77 }), nil, act(5, 1, 1, 77, 2, 0, 2), 0, api.OK}, {changed(func(s *api.Season) { s.Chain = api.Chain{} }), nil, act(5, 1, 1, 1, 2, 0, 2), 5, api.ErrStrange},
		// Stops: the chain, then the papers, on the last day, if it is sure.
		{example(), nil, act(9, 1), 5, api.ErrHolder}, {example(), nil, act(9, 2), 0, api.OK}, {example(), nil, act(9, 5), 2, api.ErrNone}, {example(), nil, act(9, 0), 2, api.ErrNone}, {example(), nil, act(9, 9999999), 2, api.ErrNone}, {changed(func(s *api.Season) { s.Papers.Papers[0].Holder = 9 }), nil, act(9, 9), 2, api.ErrNone}, {example(), went, act(9, 2), 5, api.ErrHolder}, {example(), went, act(9, 1), 0, api.OK}, {example(), around, act(9, 2), 0, api.OK}, {example(), around, act(9, 3), 5, api.ErrHolder}, {untrue(), nil, act(9, 1), 0, api.OK}, {untrue(), nil, act(9, 2), 0, api.OK}, {changed(func(s *api.Season) { s.Papers.Passes = []api.Pass{passOf(1, 1, 1, 2, 4, 4)} }), nil, act(9, 2), 5, api.ErrHolder}, {changed(func(s *api.Season) { s.Papers.Passes = []api.Pass{passOf(1, 1, 1, 2, 4, 4)} }), nil, act(9, 1), 0, api.OK}, {changed(func(s *api.Season) {
			s.Papers.Passes = []api.Pass{passOf(1, 1, 1, 2, 0, 4), passOf(2, 1, 2, 1, 0, 4), passOf(3, 1, 1, 3, 0, 4), passOf(4, 1, 3, 1, 0, 4)}
		}), nil, act(9, 1), 5, api.ErrHolder}, {changed(func(s *api.Season) {
			s.Papers.Papers = append(s.Papers.Papers, api.Paper{Id: 2, Bale: 12, Holder: 4}, api.Paper{Id: 3, Bale: 12, Holder: 4})
		}), nil, act(9, 4), 5, api.ErrHolder}, {full(), nil, act(9, 2), 0, api.OK}, {full(), nil, act(9, 1), 5, api.ErrHolder}, {full(), nil, act(9, 9999), 0, api.OK}, {bare(), nil, act(9, 1), 2, api.ErrNone},
		// Sales, and what is struck.
		{example(), nil, act(2, 1, 1, 2, 5, 500), 0, api.OK}, {example(), nil, act(2, 1, 1, 1, 5, 500), 2, api.ErrSale}, {example(), nil, act(2, 1, 1, 9, 5, 500), 2, api.ErrSale}, {example(), nil, act(2, 1, 1, 2, 10, 500), 2, api.ErrSale}, {example(), nil, act(2, 1, 1, 2, 9, 1000001), 2, api.ErrSale}, {full(), nil, act(2, 1, 1, 2, 5, 500), 2, api.ErrFull}, {example(), nil, act(6, 1), 1, api.ErrLook}, {example(), two, act(6, 1), 0, api.OK}, {example(), two, act(6, 3), 1, api.ErrLook}, {unjust(), nil, act(6, 1), 0, api.OK}, {unjust(), nil, act(6, 0), 1, api.ErrLook}, {example(), nil, act(7, 1), 2, api.ErrSale}, {full(), nil, act(7, 7), 0, api.OK}, {full(), nil, act(7, 9999999), 2, api.ErrSale}, {example(), nil, act(8, 1), 4, api.ErrPass}, {example(), around, act(8, 1), 0, api.OK}, {untrue(), nil, act(8, 1), 0, api.OK}, {full(), nil, act(8, 9999), 0, api.OK},
		{example(), append(slices.Clone(around), "unpass 1"), act(5, 5, 1, 3, 4, 0, 4), 5, api.ErrUnjust}, {example(), append(slices.Clone(around), "unpass 1"), act(9, 1), 0, api.OK},
		// Acts that are not right, and seasons that are not valid.
		{example(), nil, api.Act{}, 0, api.ErrLine}, {example(), nil, act(4, 3, 12, 2), 0, api.ErrLine}, {example(), nil, act(3, 6, 12), 0, api.ErrLine}, {changed(func(s *api.Season) { s.Papers.Days = 0 }), nil, act(9, 2), 0, api.ErrSeason}, {changed(func(s *api.Season) { s.Desk.Lean = -1 }), nil, api.Act{}, 0, api.ErrSeason},
	} {
		s := x.s
		if x.before != nil {
			s = behind(t, s, x.before...)
		}
		want := api.Season{}
		if x.e == api.OK {
			want, _, _ = inPart(s, x.a)
		}
		if y, e := season.Do(s, x.a); e != x.e || !same(y, want) {
			t.Error(i, x.a, y, e)
		}
		if part, e := season.Why(s, x.a); part != x.part || e != x.e {
			t.Error(i, x.a, part, e)
		}
	}
}

// exampleLines are those of the chapter's examples, with their replies.
func exampleLines() (lines, replies []string) {
	return []string{"look 1 1 11 0 1 4", "look 2 2 11 0 1 4", "look 3 1 98 0 1 4", "look 3 1 99 0 1 4", "look 3 1 11 0 1 9", "move 6 12 0", "move 6 41 0", "pass 1 1 1 9 0 2", "pass 1 1 1 2 0 2", "pass 2 1 1 3 1 2", "stop 2", "stop 3", "sell 1 1 2 5 500", "sell 1 1 2 5 500", "found 3 12 2", "look 01 1 11 0 1 4", "jump"}, []string{"done", "done", "denied 21", "denied 122", "denied 124", "denied 123", "done", "denied 122", "done", "denied 124", "denied 125", "done", "done", "denied 61", "unread", "unread", "unread"}
}

// P12.4: the chapter's examples, one by one and all at once.
func TestSayAndPlay(t *testing.T) {
	lines, want := exampleLines()
	s := example()
	for i, line := range lines {
		before := copied(s)
		y, r, e := season.Say(s, line)
		if r != want[i] || e != api.OK || r != "done" && !same(y, before) || r == "done" && line != "stop 3" && same(y, before) || !same(s, before) {
			t.Error(line, r, e)
		}
		s = y
	}
	y, l, e := season.Play(example(), lines)
	if !slices.Equal(l, want) || e != api.OK || !same(y, s) {
		t.Error(l, e)
	}
	z := changed(func(s *api.Season) {
		s.Desk.Looks = []api.Look{lookOf(1, 1, 11, 0, 1, 4), lookOf(2, 2, 11, 0, 1, 4)}
		s.Chain.Sales = []api.Sale{saleOf(1, 1, 2, 5, 500)}
		s.House.Moves = append(s.House.Moves, api.Move{Day: 6, Bale: 41})
		s.Papers.Passes = []api.Pass{passOf(1, 1, 1, 2, 0, 2)}
	})
	if !same(y, z) {
		t.Error(y)
	}
	if g, e := season.Grades(y); !slices.Equal(g, ints(4, 0, 0)) || e != api.OK {
		t.Error(g, e)
	}
	if part, e := season.Why(y, act(1, 3, 1, 98, 0, 1, 4)); part != 1 || e != api.ErrLook {
		t.Error(part, e)
	}
}

// P12.4: how many lines are played.
func TestPlayMany(t *testing.T) {
	for i, x := range []struct {
		s     api.Season
		lines []string
		e     api.Errno
	}{
		{example(), nil, api.OK}, {example(), []string{""}, api.OK}, {example(), slices.Repeat([]string{"jump"}, 40), api.OK}, {example(), slices.Repeat([]string{"jump"}, 41), api.ErrMany}, {example(), slices.Repeat([]string{"stop 2"}, 40), api.OK}, {example(), slices.Repeat([]string{"stop 2"}, 41), api.ErrMany}, {example(), slices.Repeat([]string{"stop 1"}, 1<<16), api.ErrMany}, {api.Season{}, slices.Repeat([]string{"jump"}, 41), api.ErrSeason}, {api.Season{}, nil, api.ErrSeason},
	} {
		y, l, e := season.Play(x.s, x.lines)
		if x.e == api.OK && (len(l) != len(x.lines) || !same(y, x.s)) || x.e != api.OK && (len(l) > 0 || !same(y, api.Season{})) || e != x.e {
			t.Error(i, l, e)
		}
	}
	for _, line := range []string{"stop 2", "jump", ""} {
		if y, r, e := season.Say(api.Season{}, line); r != "" || e != api.ErrSeason || !same(y, api.Season{}) {
			t.Error(line, r, e)
		}
	}
}

// touched are the parts that the verbs touch, by the chapter's words.
func touched() [][]int {
	return [][]int{nil, {1, 3}, {2}, {1, 3}, {3}, {2, 4}, {1}, {2}, {4}, {2, 4}}
}

// P12.5: the parts that acts touch, and which acts are apart, whatever their numbers are.
func TestTouchesAndApart(t *testing.T) {
	acts := []api.Act{{}, act(1, 1, 2, 3, 4, 5, 6), act(2, 1, 2, 3, 4, 5), act(3, 1, 2, 3), act(4, 1, 2, 1), act(5, 1, 2, 3, 4, 5, 6), act(6, 1), act(7, 1), act(8, 1), act(9, 1)}
	others := []api.Act{{}, act(1, 0, 0, 0, 0, 0, 0), act(2, 0, 0, 0, 0, 0), act(3, 1, 2, 0), act(4, 1, 2, 0), act(5, 9, 9, 9, 9, 9, 9), act(6, 0), act(7, 9999999), act(8, 9999999), act(9, 0)}
	for verb := 1; verb <= 9; verb++ {
		for _, a := range []api.Act{acts[verb], others[verb]} {
			if l, e := season.Touches(a); !slices.Equal(l, touched()[verb]) || e != api.OK {
				t.Error(a, l, e)
			}
			for other := 1; other <= 9; other++ {
				want := !slices.ContainsFunc(touched()[verb], func(part int) bool { return slices.Contains(touched()[other], part) })
				for _, b := range []api.Act{acts[other], others[other]} {
					if is, e := season.Apart(a, b); is != want || e != api.OK {
						t.Error(a, b, is, e)
					}
				}
			}
		}
	}
}

// P12.6: what the house says of each bale.
func TestGrades(t *testing.T) {
	for i, x := range []struct {
		s    api.Season
		want []int
		e    api.Errno
	}{
		{example(), ints(0, 0, 0), api.OK}, {bare(), nil, api.OK}, {full(), ints(4, 4, 4, 4, 4, 4), api.OK}, {unjust(), ints(0, 0, 0), api.OK}, {api.Season{}, nil, api.ErrSeason}, {changed(func(s *api.Season) { s.Papers.Days = 0 }), nil, api.ErrSeason},
		{behind(t, example(), "look 1 1 12 0 1 4", "look 2 2 12 0 1 4"), ints(0, 4, 0), api.OK}, {behind(t, example(), "look 1 1 12 0 1 4", "look 2 2 12 0 1 5"), ints(0, 0, 0), api.OK}, {behind(t, example(), "look 1 1 12 0 1 4", "look 2 2 12 0 1 5", "look 3 3 12 0 1 3", "look 4 1 11 0 1 3", "look 5 2 11 0 1 3"), ints(3, 4, 0), api.OK}, {changed(func(s *api.Season) {
			s.Desk.Looks = []api.Look{lookOf(1, 1, 99, 0, 1, 9), lookOf(2, 2, 99, 0, 1, 1), lookOf(3, 3, 99, 0, 1, 1), lookOf(4, 1, 12, 0, 1, 1), lookOf(5, 2, 12, 0, 1, 1)}
		}), ints(0, 1, 1), api.OK},
	} {
		if l, e := season.Grades(x.s); !slices.Equal(l, x.want) || e != x.e {
			t.Error(i, l, e)
		}
	}
}

// P12.7: the chapter's examples, kept line by line, and replayed.
func TestKeepAndReplay(t *testing.T) {
	lines, want := exampleLines()
	b := api.Books{First: example()}
	var kept []string
	for i, line := range lines {
		more, r, e := season.Keep(b, line)
		if r == "done" {
			kept = append(kept, line)
		}
		if r != want[i] || e != api.OK || !slices.Equal(more.Lines, kept) || !same(more.First, example()) {
			t.Error(line, more, r, e)
		}
		b = more
		played, _, _ := season.Play(example(), lines[:i+1])
		if s, e := season.Replay(b); e != api.OK || !same(s, played) {
			t.Error(line, s, e)
		}
	}
	if !slices.Equal(b.Lines, []string{"look 1 1 11 0 1 4", "look 2 2 11 0 1 4", "move 6 41 0", "pass 1 1 1 2 0 2", "stop 3", "sell 1 1 2 5 500"}) {
		t.Error(b.Lines)
	}
}

// P12.7: the last line that there is room for; behind it there is none for any, also if it would be denied or is unread.
func TestKeepMany(t *testing.T) {
	b := api.Books{First: example(), Lines: slices.Repeat([]string{"look 1 1 11 0 1 4", "unlook 1"}, 20)[:39]}
	for _, x := range []struct {
		line, reply string
		n           int
	}{{"jump", "unread", 39}, {"unlook 2", "denied 21", 39}, {"look 1 1 11 0 1 4", "denied 21", 39}, {"unlook 1", "done", 40}, {"stop 4", "done", 40}} {
		more, r, e := season.Keep(b, x.line)
		if r != x.reply || e != api.OK || len(more.Lines) != x.n || !slices.Equal(more.Lines[:39], b.Lines) || x.n == 40 && more.Lines[39] != x.line {
			t.Error(x, more.Lines, r, e)
		}
		for _, line := range []string{"stop 4", "look 2 1 11 0 1 4", "jump", "stop 1", ""} {
			if y, r, e := season.Keep(more, line); x.n == 40 && (e != api.ErrMany || r != "" || !same(y, api.Books{})) {
				t.Error(x, line, y, r, e)
			}
		}
	}
}
