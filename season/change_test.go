package season_test

import (
	"slices"
	"testing"

	"middling/api"
	"middling/season"
	"middling/testhelp"
)

// everything is a season with something in each of its lists, in which lines can be done.
func everything() api.Season {
	return changed(func(s *api.Season) {
		s.Desk.Looks = []api.Look{lookOf(5, 1, 12, 0, 1, 4), lookOf(7, 2, 12, 0, 1, 4)}
		s.Chain.Sales = []api.Sale{saleOf(3, 1, 2, 4, 500), saleOf(6, 2, 3, 4, 500)}
		s.Papers.Passes = []api.Pass{passOf(4, 1, 1, 2, 0, 3)}
		s.Papers.Pledges = []api.Pledge{{Number: 1, Paper: 1, By: 1, Bank: 90, From: span(0, 1), Until: span(1, 2)}}
	})
}

// doable are lines each of which is done in that season.
func doable() []string {
	return []string{"look 6 3 11 0 1 4", "sell 1 1 2 5 500", "move 6 12 0", "found 3 12 1", "pass 5 1 2 3 0 4", "unlook 5", "unsell 6", "unpass 4", "stop 3"}
}

// P1, R3: no argument is written to, also not behind its end.
func TestArgumentsStay(t *testing.T) {
	for _, s := range []api.Season{everything(), full(), unjust(), untrue(), longest(), changed(func(s *api.Season) { s.Papers.Days = 0 })} {
		s = roomy(s)
		lines := roomy(append(doable(), "jump", "stop 1", "look 1 1 11 0 1 9"))
		before, kept := whole(s), whole(lines)
		for _, line := range lines {
			a, _ := season.Read(line)
			a = roomy(a)
			nums := whole(a.Nums)
			for _, y := range calls() {
				y.do(s, asks{a, a, line, file(s), lines})
				y.do(s, asks{a, a, line, "", lines[:2]})
			}
			if !same(whole(a.Nums), nums) {
				t.Error(line, a)
			}
		}
		if !same(whole(s), before) || !same(whole(lines), kept) {
			t.Error(whole(s), whole(lines))
		}
	}
}

// apart tells whether no two things share memory: each one is spoiled, and those behind it stay.
func apart[T any](l []T) bool { return testhelp.Apart(l, copied, same, spoil) }

// P1, R3: a new season shares no memory with an argument, nor with another one.
func TestSeasonsAreNew(t *testing.T) {
	s := everything()
	file, _ := season.Pack(s)
	l := []api.Season{s}
	for _, line := range append(doable(), "jump", "stop 2", "look 1 1 12 0 1 9", "stop 4") {
		a, _ := season.Read(line)
		if y, e := season.Do(s, a); e == api.OK {
			l = append(l, y)
		}
		said, _, e := season.Say(s, line)
		played, _, f := season.Play(s, []string{line})
		replayed, g := season.Replay(api.Books{First: s, Lines: []string{line}})
		if e != api.OK || f != api.OK {
			t.Error(line, e, f)
		}
		if l = append(l, said, played); g == api.OK {
			l = append(l, replayed)
		}
	}
	none, _, _ := season.Play(s, nil)
	bare, _ := season.Replay(api.Books{First: s})
	one, _ := season.Unpack(file)
	other, _ := season.Unpack(file)
	l = append(l, none, bare, one, other)
	if len(l) < 40 || slices.ContainsFunc(l, func(y api.Season) bool { return len(y.House.Stacks) != 3 || len(y.Papers.Pledges) != 1 }) || !apart(l) {
		t.Error(l)
	}
}

// P1, R3: new books share no memory with those that they come from, nor with others.
func TestBooksAreNew(t *testing.T) {
	b := roomy(api.Books{First: everything(), Lines: []string{"sell 1 1 2 5 500", "unsell 1"}})
	before := whole(b)
	l := []api.Books{b}
	for _, line := range append(doable(), "jump", "stop 2") {
		more, _, e := season.Keep(b, line)
		again, _, f := season.Keep(more, "found 4 12 1")
		if e != api.OK || f != api.OK {
			t.Error(line, e, f)
		}
		l = append(l, more, again)
	}
	if !same(whole(b), before) || !apart(l) {
		t.Error(l)
	}
}

// P1, R3: lists of numbers and of replies are new.
func TestListsAreNew(t *testing.T) {
	s, a := full(), act(5, 1, 2, 3, 4, 5, 6)
	line, _ := season.Write(a)
	read, _ := season.Read(line)
	again, _ := season.Read(line)
	touches, _ := season.Touches(a)
	also, _ := season.Touches(a)
	grades, _ := season.Grades(s)
	other, _ := season.Grades(s)
	if !apart([][]int{a.Nums, read.Nums, again.Nums, touches, also, grades, other, s.Desk.Bales}) {
		t.Error(read, again, touches, also, grades, other)
	}
	lines := []string{"jump", "stop 2"}
	_, one, _ := season.Play(s, lines)
	_, two, _ := season.Play(s, lines)
	if !apart([][]string{lines, one, two}) {
		t.Error(one, two)
	}
	touches, _ = season.Touches(act(5, 1, 2, 3, 4, 5, 6))
	if !slices.Equal(touches, ints(2, 4)) {
		t.Error(touches)
	}
}

// P1, R4: nil lists and empty ones are the same.
func TestNilAndEmpty(t *testing.T) {
	a := bare()
	b := copied(a)
	b.Desk.Room.Boxes, b.Desk.Room.Matches, b.Desk.Bales, b.Desk.Classers, b.Desk.Looks = []api.Box{}, []api.Match{}, ints(), ints(), []api.Look{}
	b.Chain.Houses, b.Chain.Sales = ints(), []api.Sale{}
	b.House.Stacks[0].Bales, b.House.Owners, b.House.Moves, b.House.Rain, b.House.Found = ints(), []api.Owned{}, []api.Move{}, ints(), []api.Found{}
	b.Papers.Papers, b.Papers.Passes, b.Papers.Pledges = []api.Paper{}, []api.Pass{}, []api.Pledge{}
	for _, y := range calls() {
		for _, x := range []asks{{}, {act: act(9, 1), other: act(9, 1), line: "stop 1"}, {act: act(9, 1), other: act(9, 1), line: "stop 1", lines: []string{}}} {
			is, e := y.do(a, x)
			if also, f := y.do(b, x); e != f || is != also {
				t.Error(y.name, is, e, also, f)
			}
		}
	}
	for _, nums := range [][]int{nil, ints()} {
		if l, e := season.Write(api.Act{Verb: 9, Nums: nums}); l != "" || e != api.ErrLine {
			t.Error(l, e)
		}
	}
}
