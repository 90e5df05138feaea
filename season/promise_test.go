package season_test

import (
	"math/rand"
	"slices"
	"strings"
	"testing"

	"middling/api"
	"middling/box"
	"middling/grade"
	"middling/paper"
	"middling/season"
	"middling/stack"
)

// linesOf are so many lines by chance for a season: most are those of acts that may be done in it by then, few are unread.
func linesOf(c *rand.Rand, s api.Season, n int) []string {
	var l []string
	for range n {
		a := anyAct(c, s)
		line, _ := season.Write(a)
		if c.Intn(20) == 0 {
			line += one(c, []string{" ", "0", "x", " 1"})
		} else {
			s, _, _ = told(s, a)
		}
		l = append(l, line)
	}
	return l
}

// P12.9: a line that is read is written as it was, and an act that is written is read as it was.
func TestLinesBothWays(t *testing.T) {
	eachSeason(t, 300, func(s api.Season, c *rand.Rand) bool {
		for _, line := range linesOf(c, s, 20) {
			a, e := season.Read(line)
			if e != api.OK {
				continue
			}
			again, f := season.Write(a)
			b, g := season.Read(again)
			if again != line || f != api.OK || !same(a, b) || g != api.OK {
				return false
			}
		}
		return true
	})
}

// otherParts tells whether all parts of two seasons but one are the same.
func otherParts(a, b api.Season, part int) bool {
	switch part {
	case api.PartDesk:
		a.Desk = b.Desk
	case api.PartChain:
		a.Chain = b.Chain
	case api.PartHouse:
		a.House = b.House
	case api.PartPapers:
		a.Papers = b.Papers
	}
	return same(a, b)
}

// P12.10: what is done is done in its part alone; what is denied leaves the season as it was, and is denied for the reason that is told.
func TestInItsPartAlone(t *testing.T) {
	parts := []int{0, 1, 2, 3, 3, 4, 1, 2, 4, 2}
	met := map[int]int{}
	eachSeason(t, 400, func(s api.Season, c *rand.Rand) bool {
		for _, line := range linesOf(c, s, 15) {
			a, e := season.Read(line)
			y, r, f := season.Say(s, line)
			if f != api.OK {
				return false
			}
			if e != api.OK {
				if r != "unread" || !same(y, s) {
					return false
				}
				continue
			}
			part, no := season.Why(s, a)
			met[part]++
			if r != reply(no) || (part == 0) != (no == api.OK) || part != 0 && part != api.PartRules && part != parts[a.Verb] {
				return false
			}
			z, g := season.Do(s, a)
			if g != no || part == 0 && (!same(y, z) || !otherParts(s, y, parts[a.Verb])) || part != 0 && (!same(y, s) || !same(z, api.Season{})) {
				return false
			}
			// What its part alone does not deny is denied by the rules.
			alone, _, e := inPart(s, a)
			if part == 0 && !same(alone, y) || (e == api.OK) != (part == 0 || part == api.PartRules) || part > 0 && part < api.PartRules && e != no {
				return false
			}
			s = y
		}
		return true
	})
	for part := range 6 {
		if met[part] < 100 {
			t.Error(met)
		}
	}
}

// P12.11: lines that are played one after the other are played as all at once.
func TestOneAfterTheOther(t *testing.T) {
	counts := map[string]int{}
	eachSeason(t, 300, func(s api.Season, c *rand.Rand) bool {
		lines := linesOf(c, s, c.Intn(41))
		all, replies, e := season.Play(s, lines)
		if e != api.OK || len(replies) != len(lines) {
			return false
		}
		at := c.Intn(len(lines) + 1)
		first, one, e := season.Play(s, lines[:at])
		second, two, f := season.Play(first, lines[at:])
		if e != api.OK || f != api.OK || !same(second, all) || !slices.Equal(slices.Concat(one, two), replies) {
			return false
		}
		y := s
		for i, line := range lines {
			var r string
			if y, r, e = season.Say(y, line); r != replies[i] || e != api.OK {
				return false
			}
			counts[strings.Fields(r)[0]]++
		}
		return same(y, all)
	})
	if counts["done"] < 1000 || counts["denied"] < 1000 || counts["unread"] < 100 {
		t.Error(counts)
	}
}

// P12.12: acts that touch no part in common may change places.
func TestChangePlaces(t *testing.T) {
	met := map[[2]bool]int{}
	pairs := map[[2]uint8]bool{}
	eachSeason(t, 900, func(s api.Season, c *rand.Rand) bool {
		for range 20 {
			a, b := anyAct(c, s), anyAct(c, s)
			if is, e := season.Apart(a, b); !is || e != api.OK {
				continue
			}
			one, _ := season.Write(a)
			two, _ := season.Write(b)
			y, l, e := season.Play(s, []string{one, two})
			z, k, f := season.Play(s, []string{two, one})
			if e != api.OK || f != api.OK || l[0] != k[1] || l[1] != k[0] || !same(y, z) {
				t.Error(one, two, l, k)
				return false
			}
			met[[2]bool{l[0] == "done", l[1] == "done"}]++
			if l[0] == "done" && l[1] == "done" {
				pairs[[2]uint8{a.Verb, b.Verb}] = true
			}
		}
		return true
	})
	apart := 0
	for a := range uint8(10) {
		for b := range uint8(10) {
			if a > 0 && b > 0 && !slices.ContainsFunc(touched()[a], func(part int) bool { return slices.Contains(touched()[b], part) }) {
				apart++
				if !pairs[[2]uint8{a, b}] {
					t.Error(a, b)
				}
			}
		}
	}
	if met[[2]bool{true, true}] < 500 || met[[2]bool{true, false}] < 500 || met[[2]bool{false, false}] < 500 || apart != len(pairs) {
		t.Error(met, apart, len(pairs))
	}
}

// P12.3, P12.12: the rules are asked of the season as it is then: what is said of acts that touch a part in common can depend on which comes first.
func TestWhichComesFirst(t *testing.T) {
	for i, x := range []struct {
		s             api.Season
		one, two      string
		onward, other []string
	}{
		{example(), "look 1 1 12 0 1 4", "look 1 2 12 0 1 5", []string{"done", "denied 21"}, []string{"done", "denied 21"}},
		{behind(t, example(), "look 1 1 12 0 1 4"), "look 2 2 12 0 1 4", "move 6 12 0", []string{"done", "done"}, []string{"denied 123", "done"}},
		{changed(func(s *api.Season) { s.Desk.Bales, s.House.Moves = ints(41), nil }), "look 1 1 41 0 1 4", "move 6 41 2", []string{"denied 122", "done"}, []string{"done", "done"}},
		{behind(t, example(), "look 1 1 12 0 1 4", "look 2 2 12 0 1 4"), "unlook 1", "move 6 12 0", []string{"done", "denied 123"}, []string{"done", "done"}},
		{changed(func(s *api.Season) { s.House.Moves = nil }), "move 6 41 2", "found 3 41 0", []string{"done", "done"}, []string{"denied 83", "done"}},
		{example(), "pass 1 1 1 2 0 2", "stop 1", []string{"done", "done"}, []string{"denied 125", "done"}},
		{behind(t, example(), "pass 1 1 1 2 0 2"), "unpass 1", "stop 1", []string{"done", "denied 125"}, []string{"done", "done"}},
		{behind(t, example(), "sell 1 1 2 5 500"), "stop 2", "unsell 1", []string{"done", "denied 61"}, []string{"done", "done"}},
		{unjust(), "unlook 1", "look 4 2 12 0 1 4", []string{"done", "done"}, []string{"denied 124", "done"}},
		{untrue(), "unpass 1", "pass 2 1 1 2 0 4", []string{"done", "done"}, []string{"denied 124", "done"}},
	} {
		_, l, e := season.Play(x.s, []string{x.one, x.two})
		_, k, f := season.Play(x.s, []string{x.two, x.one})
		if !slices.Equal(l, x.onward) || !slices.Equal(k, x.other) || e != api.OK || f != api.OK {
			t.Error(i, l, k)
		}
	}
}

// P12.13, N11: whoever keeps lines gets the season that was played without those that were denied, and its grades.
func TestClassedAgain(t *testing.T) {
	decided := 0
	eachSeason(t, 250, func(s api.Season, c *rand.Rand) bool {
		lines := linesOf(c, s, 30)
		b := api.Books{First: s}
		var kept []string
		for _, line := range lines {
			more, r, e := season.Keep(b, line)
			if e != api.OK || !same(more.First, s) {
				return false
			}
			if r == "done" {
				kept = append(kept, line)
			}
			b = more
		}
		played, _, _ := season.Play(s, lines)
		without, replies, _ := season.Play(s, kept)
		again, e := season.Replay(b)
		if e != api.OK || !slices.Equal(b.Lines, kept) || !same(again, played) || !same(again, without) || slices.ContainsFunc(replies, func(r string) bool { return r != "done" }) {
			return false
		}
		l, _ := season.Grades(played)
		k, e := season.Grades(again)
		for _, n := range k {
			if n > 0 {
				decided++
			}
		}
		return slices.Equal(l, k) && e == api.OK
	})
	if decided < 50 {
		t.Error(decided)
	}
}

// P12.14, N11: a file tells its season: it is read as it was written, and other seasons have other files.
func TestFilesTell(t *testing.T) {
	files := map[string]api.Season{}
	eachSeason(t, 400, func(s api.Season, _ *rand.Rand) bool {
		f, e := season.Pack(s)
		y, g := season.Unpack(f)
		again, h := season.Pack(y)
		if e != api.OK || g != api.OK || h != api.OK || !same(y, s) || again != f {
			return false
		}
		if z, is := files[f]; is && !same(z, s) {
			return false
		}
		files[f] = s
		return true
	})
	if len(files) < 390 {
		t.Error(len(files))
	}
}

// P12.14, N11: from a file a season is played on as it would have been.
func TestPlayedOn(t *testing.T) {
	eachSeason(t, 100, func(s api.Season, c *rand.Rand) bool {
		lines := linesOf(c, s, 20)
		f, _ := season.Pack(s)
		y, _ := season.Unpack(f)
		one, l, e := season.Play(s, lines)
		two, k, g := season.Play(y, lines)
		return same(one, two) && slices.Equal(l, k) && e == api.OK && g == api.OK
	})
}

// P12.15, N1: by lines that are done no desk gets unjust, and no bale goes out that is not decided; each bale has a grade then.
func TestNothingUnjust(t *testing.T) {
	outs, looks := 0, 0
	eachSeason(t, 300, func(s api.Season, c *rand.Rand) bool {
		just, _ := grade.Can(s.Desk)
		for _, line := range linesOf(c, s, 30) {
			a, _ := season.Read(line)
			y, r, _ := season.Say(s, line)
			if r != "done" {
				continue
			}
			is, e := grade.Can(y.Desk)
			if e != api.OK || just && !is || a.Verb == api.VerbLook && !is {
				return false
			}
			if a.Verb == api.VerbLook {
				looks++
			}
			if a.Verb == api.VerbMove && a.Nums[2] == 0 && slices.Contains(s.Desk.Bales, a.Nums[1]) {
				outs++
				if decides(s.Desk, a.Nums[1]) == 0 {
					return false
				}
			}
			for _, bale := range y.Desk.Bales {
				if l, e := grade.Grades(y.Desk, bale); is && (e != api.OK || l.Lo > l.Hi) {
					return false
				}
			}
			s, just = y, is
		}
		return true
	})
	if outs < 30 || looks < 300 {
		t.Error(outs, looks)
	}
}

// N10: what is denied as it cannot be true would have left something that must be false; what is done leaves nothing of the kind, if there was none.
func TestNothingFalseIsDone(t *testing.T) {
	looks, passes := 0, 0
	eachSeason(t, 300, func(s api.Season, c *rand.Rand) bool {
		just, _ := grade.Can(s.Desk)
		held, _ := paper.Can(s.Papers)
		for range 15 {
			a := anyAct(c, s)
			y, e := season.Do(s, a)
			forced, _, _ := inPart(s, a)
			if e == api.ErrUnjust {
				wrong, f := grade.Wrong(forced.Desk)
				if a.Verb == api.VerbPass {
					wrong, f = paper.Wrong(forced.Papers)
					passes++
				} else {
					looks++
				}
				// Too many may be false, or the Room itself.
				if room, _ := box.Can(s.Desk.Room); f == api.OK && len(wrong) == 0 || f != api.OK && f != api.ErrMany && room {
					return false
				}
			}
			if e != api.OK {
				continue
			}
			if l, f := grade.Wrong(y.Desk); just && (len(l) > 0 || f != api.OK) {
				return false
			}
			if l, f := paper.Wrong(y.Papers); held && a.Verb != api.VerbUnpass && (len(l) > 0 || f != api.OK) {
				return false
			}
			s = y
			just, _ = grade.Can(s.Desk)
			held, _ = paper.Can(s.Papers)
		}
		return true
	})
	if looks < 20 || passes < 100 {
		t.Error(looks, passes)
	}
}

// P12.10: what is found false at last is no reason to deny anything: findings have no rule.
func TestFindingsHaveNoRule(t *testing.T) {
	s, r, e := season.Say(example(), "found 3 11 1")
	if r != "done" || e != api.OK {
		t.Error(r, e)
	}
	if can, e := stack.Can(s.House); can || e != api.OK {
		t.Error(can, e)
	}
	if l, e := stack.Wrong(s.House); !slices.Equal(l, ints(3)) || e != api.OK {
		t.Error(l, e)
	}
}
