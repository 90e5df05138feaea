package season_test

import (
	"math/rand"
	"slices"
	"strconv"
	"testing"

	"middling/api"
	"middling/chain"
	"middling/grade"
	"middling/paper"
	"middling/season"
	"middling/stack"
)

// hasBeen tells whether a bale has been in the house: it is one of a stack at first, or of a move.
func hasBeen(w api.Warehouse, bale int) bool {
	return slices.ContainsFunc(w.Stacks, func(x api.Stack) bool { return slices.Contains(x.Bales, bale) }) || slices.ContainsFunc(w.Moves, func(m api.Move) bool { return m.Bale == bale })
}

// decides is what the house says of a bale, 0 if nothing: just the first look of each classer counts; two that are alike, or the middle one of three.
func decides(d api.Desk, bale int) int {
	var classers, said []int
	for _, x := range d.Looks {
		if x.Bale == bale && !slices.Contains(classers, x.Classer) {
			classers, said = append(classers, x.Classer), append(said, x.Said)
		}
	}
	switch {
	case len(said) > 1 && said[0] == said[1]:
		return said[0]
	case len(said) > 2:
		l := slices.Sorted(slices.Values(said[:3]))
		return l[1]
	}
	return 0
}

// holdsOne tells whether a house holds a paper on the last day for sure.
func holdsOne(p api.Papers, house int) bool {
	return slices.ContainsFunc(p.Papers, func(x api.Paper) bool {
		l, e := paper.Holder(p, x.Id, p.Days-1)
		return e == api.OK && slices.Equal(l, ints(house))
	})
}

// inPart does an act in its part alone, and tells which one it is.
func inPart(s api.Season, a api.Act) (api.Season, int, api.Errno) {
	var e api.Errno
	s = copied(s)
	n := a.Nums
	switch a.Verb {
	case 1:
		s.Desk, e = grade.Put(s.Desk, lookOf(n[0], n[1], n[2], n[3], n[4], n[5]))
		return s, 1, e
	case 2:
		s.Chain, e = chain.Put(s.Chain, saleOf(n[0], n[1], n[2], n[3], n[4]))
		return s, 2, e
	case 3:
		s.House, e = stack.Do(s.House, api.Move{Day: n[0], Bale: n[1], To: n[2]})
		return s, 3, e
	case 4:
		s.House, e = stack.Find(s.House, api.Found{Number: n[0], Bale: n[1], Wet: n[2] == 1})
		return s, 3, e
	case 5:
		s.Papers, e = paper.Put(s.Papers, passOf(n[0], n[1], n[2], n[3], n[4], n[5]))
		return s, 4, e
	case 6:
		s.Desk, e = grade.Strike(s.Desk, ints(n[0]))
		return s, 1, e
	case 7:
		s.Chain, e = chain.Strike(s.Chain, ints(n[0]))
		return s, 2, e
	case 8:
		s.Papers, e = paper.Strike(s.Papers, ints(n[0]))
		return s, 4, e
	}
	s.Chain, e = chain.Stop(s.Chain, n[0])
	return s, 2, e
}

// ruled is the error of the house's rules, of the season behind an act.
func ruled(s api.Season, a api.Act) api.Errno {
	n := a.Nums
	switch a.Verb {
	case 1:
		if !hasBeen(s.House, n[2]) {
			return api.ErrStrange
		}
		if is, _ := grade.Can(s.Desk); !is {
			return api.ErrUnjust
		}
	case 3:
		if n[2] == 0 && slices.Contains(s.Desk.Bales, n[1]) && decides(s.Desk, n[1]) == 0 {
			return api.ErrUndecided
		}
	case 5:
		if !slices.Contains(s.Chain.Houses, n[3]) {
			return api.ErrStrange
		}
		if is, _ := paper.Can(s.Papers); !is {
			return api.ErrUnjust
		}
	case 9:
		if holdsOne(s.Papers, n[0]) {
			return api.ErrHolder
		}
	}
	return api.OK
}

// told is the season behind an act that is right, by the chapter's words: as it was if it is denied, then with the part, and the error.
func told(s api.Season, a api.Act) (api.Season, int, api.Errno) {
	y, part, e := inPart(s, a)
	if e != api.OK {
		return s, part, e
	}
	if e := ruled(y, a); e != api.OK {
		return s, api.PartRules, e
	}
	return y, 0, api.OK
}

// reply is what is replied to the line of an act that is right.
func reply(e api.Errno) string {
	if e == api.OK {
		return "done"
	}
	return "denied " + strconv.Itoa(int(e))
}

// P12.3, P12.4, P12.6: many acts on many seasons are done, or denied, as the chapter tells.
func TestByWords(t *testing.T) {
	met := map[uint8]map[api.Errno]int{}
	for verb := range uint8(10) {
		met[verb] = map[api.Errno]int{}
	}
	eachSeason(t, 1500, func(s api.Season, c *rand.Rand) bool {
		for range 12 {
			a := anyAct(c, s)
			want, part, no := told(s, a)
			met[a.Verb][no]++
			y, e := season.Do(s, a)
			if e != no || no == api.OK && !same(y, want) || no != api.OK && !same(y, api.Season{}) {
				t.Error(a, y, e, no)
				return false
			}
			if by, e := season.Why(s, a); by != part || e != no {
				t.Error(a, by, e, part, no)
				return false
			}
			line, _ := season.Write(a)
			if y, r, e := season.Say(s, line); r != reply(no) || e != api.OK || !same(y, want) {
				t.Error(line, y, r, e)
				return false
			}
			s = want
		}
		var grades []int
		for _, bale := range s.Desk.Bales {
			grades = append(grades, decides(s.Desk, bale))
		}
		l, e := season.Grades(s)
		return slices.Equal(l, grades) && e == api.OK
	})
	for verb, l := range map[uint8][]api.Errno{1: {api.OK, api.ErrLook, api.ErrStrange, api.ErrUnjust}, 2: {api.OK, api.ErrSale}, 3: {api.OK, api.ErrMove, api.ErrUndecided}, 4: {api.OK, api.ErrFound}, 5: {api.OK, api.ErrPass, api.ErrStrange, api.ErrUnjust}, 6: {api.OK, api.ErrLook}, 7: {api.OK, api.ErrSale}, 8: {api.OK, api.ErrPass}, 9: {api.OK, api.ErrNone, api.ErrHolder}} {
		for _, e := range l {
			if met[verb][e] < 20 {
				t.Error(verb, e, met[verb][e])
			}
		}
	}
}
