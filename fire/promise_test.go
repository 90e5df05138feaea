package fire_test

import (
	"math/rand"
	"slices"
	"testing"

	"middling/api"
	"middling/fire"
	"middling/paper"
	"middling/testhelp"
)

// eachTrue runs a test for blazes by chance that have truths, as large as they can be, with a truth of each one's fire.
func eachTrue(t *testing.T, n int, test func(b api.Blaze, x truth, c *rand.Rand) bool) {
	some := 0
	eachBlaze(t, n, large(), func(b api.Blaze, x truth, c *rand.Rand) bool {
		is, e := fire.Can(b)
		if !is {
			return e == api.OK
		}
		some++
		return test(b, x, c)
	})
	if some < n*2/3 {
		t.Error(some)
	}
}

// others are truths of the fire by chance, grown from one.
func others(c *rand.Rand, b api.Blaze, x truth) []truth {
	l := []truth{x}
	for range 40 {
		y, z := l[c.Intn(len(l))], anyTruth(c, b)
		y.took = slices.Clone(y.took)
		switch c.Intn(3) {
		case 0:
			y.began = z.began
		case 1:
			y.start = z.start
		}
		if len(b.Gaps) > 0 {
			at := c.Intn(len(b.Gaps))
			y.took[at] = z.took[at]
		}
		y.caught = comes(b, y)
		if y.fits(b.Glances) {
			l = append(l, y)
		}
	}
	return l
}

// burned are the bales that were lost in a minute or before it in a truth.
func burned(b api.Blaze, x truth, minute int) []int { return words{piles: piles(b)}.burned(x, minute) }

func known(b api.Blaze, of, minute int) uint8 {
	k, _ := fire.Known(b, of, minute)
	return k
}

// agrees tells whether something that is so, or not, is so as it is told.
func agrees(k uint8, so bool) bool {
	return k == api.KnownOpen || k == testhelp.KnownBy(map[bool]int{true: 1}[so], 1)
}

func within(s api.Span, n int) bool { return n >= s.Lo && n <= s.Hi }

// isTold tells whether a truth is as it is told where the fire began, when stacks caught, and how it went.
func isTold(b api.Blaze, x truth) bool {
	began, _ := fire.Began(b)
	if !slices.Contains(began, x.began) {
		return false
	}
	for _, id := range stacks(b) {
		n, is := x.caught[id]
		s, e := fire.Caught(b, id)
		if is && (e != api.OK || !within(s, n)) || !is && e == api.OK && known(b, id, min(s.Hi, api.MaxSpark)) == api.KnownYes {
			return false
		}
		for _, other := range stacks(b) {
			m, also := x.caught[other]
			k, e := fire.Before(b, id, other)
			if other != id && (e != api.OK || !agrees(k, is && (!also || n < m))) {
				return false
			}
		}
	}
	for at, g := range b.Gaps {
		if s, e := fire.Spread(b, g.A, g.B); e != api.OK || !within(s, x.took[at]) {
			return false
		}
	}
	return true
}

// isLost tells whether in a truth all is lost by a minute that is told, no more than may be, and by each house as it is told.
func isLost(b api.Blaze, x truth, minute int) bool {
	sure, may, e := fire.Lost(b, minute)
	l := burned(b, x, minute)
	if e != api.OK || slices.ContainsFunc(sure, func(bale int) bool { return !slices.Contains(l, bale) }) || slices.ContainsFunc(l, func(bale int) bool { return !slices.Contains(may, bale) }) {
		return false
	}
	for _, house := range houses() {
		surely, perhaps := 0, 0
		for _, bale := range l {
			if whose, _ := fire.Whose(b, bale); slices.Contains(whose, house) {
				perhaps++
				if len(whose) == 1 {
					surely++
				}
			}
		}
		if s, e := fire.Costs(b, house, minute); e != api.OK || s.Lo > surely || s.Hi < perhaps {
			return false
		}
	}
	return true
}

// P11.8, N9: in each truth it is as it is told.
func TestTruthsAreTold(t *testing.T) {
	truths, lost := 0, 0
	eachTrue(t, 120, func(b api.Blaze, x truth, c *rand.Rand) bool {
		l := others(c, b, x)
		truths += len(l)
		for _, y := range []truth{l[0], l[len(l)/2], l[len(l)-1]} {
			minute := c.Intn(16)
			lost += len(burned(b, y, minute))
			for _, id := range stacks(b) {
				if !agrees(known(b, id, minute), y.had(id, minute)) {
					return false
				}
			}
			if !isTold(b, y) || !isLost(b, y, minute) {
				return false
			}
		}
		return true
	})
	if truths < 800 || lost < 300 {
		t.Error(truths, lost)
	}
}

// room returns the blaze with room for a glance more.
func room(b api.Blaze) api.Blaze {
	if len(b.Glances) == api.MaxGlances {
		b.Glances = b.Glances[1:]
	}
	return b
}

// P11.8: both ends of when a stack caught come about, and nothing beyond them does; what is open can be, and not be.
func TestEndsComeAbout(t *testing.T) {
	ends, opens := 0, 0
	eachTrue(t, 250, func(b api.Blaze, _ truth, c *rand.Rand) bool {
		b = room(b)
		can := func(of, minute int, burns bool) bool {
			is, e := fire.Can(more(b, of, minute, burns))
			return is && e == api.OK
		}
		for _, id := range stacks(b) {
			minute := c.Intn(20)
			k := known(b, id, minute)
			if can(id, minute, true) != (k != api.KnownNo) || can(id, minute, false) != (k != api.KnownYes) {
				return false
			}
			if k == api.KnownOpen {
				opens++
			}
			s, e := fire.Caught(b, id)
			if e != api.OK {
				if k != api.KnownNo || can(id, api.MaxSpark, true) {
					return false
				}
				continue
			}
			ends++
			never := can(id, api.MaxSpark, false)
			if !can(id, s.Lo, true) || s.Lo > 0 && (can(id, s.Lo-1, true) || !can(id, s.Lo-1, false)) || can(id, s.Hi, false) != never || s.Hi > s.Lo && !can(id, s.Hi-1, false) {
				return false
			}
		}
		return true
	})
	if ends < 300 || opens < 60 {
		t.Error(ends, opens)
	}
}

// nearest tells in which minute fire can come to a stack by each way, from where it may have begun, with the fewest or the most minutes: the first of all, and the first of the last ones.
func nearest(b api.Blaze, id int) (lo, hi int) {
	lo, hi = 9999, -1
	began, _ := fire.Began(b)
	for _, from := range began {
		soon, late := truth{began: from, start: b.Start.Lo}, truth{began: from, start: b.Start.Hi}
		for _, g := range b.Gaps {
			soon.took, late.took = append(soon.took, g.Minutes.Lo), append(late.took, g.Minutes.Hi)
		}
		if n, is := comes(b, soon)[id]; is {
			lo = min(lo, n)
		}
		if n, is := comes(b, late)[id]; is {
			hi = max(hi, n)
		}
	}
	return lo, hi
}

// P11.9: a stack has caught no sooner than by its nearest way, and no later than by each way; if nothing was seen just then.
func TestNearestWay(t *testing.T) {
	some, never := 0, 0
	eachTrue(t, 300, func(b api.Blaze, _ truth, _ *rand.Rand) bool {
		bare := b
		bare.Glances = nil
		for _, id := range stacks(b) {
			lo, hi := nearest(b, id)
			if s, e := fire.Caught(b, id); e == api.OK && (s.Lo < lo || s.Hi > hi) || e != api.OK && e != api.ErrNone {
				return false
			}
			lo, hi = nearest(bare, id)
			s, e := fire.Caught(bare, id)
			if hi < 0 {
				never++
				if e != api.ErrNone {
					return false
				}
				continue
			}
			some++
			if s != span(lo, hi) || e != api.OK {
				return false
			}
		}
		// Of two stacks with a gap one catches no later than the other one and the gap's minutes.
		for _, g := range b.Gaps {
			one, e := fire.Caught(b, g.A)
			other, f := fire.Caught(b, g.B)
			if e != f || e == api.OK && (one.Hi > other.Hi+g.Minutes.Hi || other.Hi > one.Hi+g.Minutes.Hi || one.Lo > other.Lo+g.Minutes.Hi || other.Lo > one.Lo+g.Minutes.Hi) {
				return false
			}
		}
		return true
	})
	if some < 500 || never < 50 {
		t.Error(some, never)
	}
}

// P11.9: what has caught stays so, and so does what was lost.
func TestItStaysSo(t *testing.T) {
	changes := 0
	eachTrue(t, 100, func(b api.Blaze, _ truth, _ *rand.Rand) bool {
		had := map[int]uint8{}
		var sure, may []int
		costs := map[int]api.Span{}
		for _, minute := range minutes() {
			for _, id := range stacks(b) {
				k, e := fire.Known(b, id, minute)
				if k < had[id] || e != api.OK {
					return false
				}
				if k > had[id] {
					changes++
				}
				had[id] = k
			}
			l, k, e := fire.Lost(b, minute)
			if e != api.OK || !slices.Equal(testhelp.Sorted(append(sure, l...)), l) || !slices.Equal(testhelp.Sorted(append(may, k...)), k) {
				return false
			}
			sure, may = l, k
			for _, house := range houses() {
				s, e := fire.Costs(b, house, minute)
				if s.Lo < costs[house].Lo || s.Hi < costs[house].Hi || e != api.OK {
					return false
				}
				costs[house] = s
			}
		}
		return true
	})
	if changes < 200 {
		t.Error(changes)
	}
}

// inside tells whether all numbers are among others.
func inside(l, all []int) bool {
	return !slices.ContainsFunc(l, func(n int) bool { return !slices.Contains(all, n) })
}

// knowsMore tells whether of one blaze no less is told than of another one, and how much more.
func knowsMore(y, b api.Blaze, minute int) (bool, int) {
	closed := 0
	stays := func(k, was uint8) bool {
		if k != was {
			closed++
		}
		return k == was || was == api.KnownOpen
	}
	narrower := func(s, was api.Span) bool {
		if s != was {
			closed++
		}
		return s.Lo >= was.Lo && s.Hi <= was.Hi
	}
	now, _ := fire.Began(y)
	began, _ := fire.Began(b)
	if !inside(now, began) || len(now) == 0 {
		return false, 0
	}
	for _, id := range stacks(b) {
		s, e := fire.Caught(y, id)
		was, f := fire.Caught(b, id)
		if !stays(known(y, id, minute), known(b, id, minute)) || f != api.OK && e == api.OK || e == api.OK && !narrower(s, was) {
			return false, 0
		}
		for _, other := range stacks(b) {
			k, _ := fire.Before(y, id, other)
			was, _ := fire.Before(b, id, other)
			if other != id && !stays(k, was) {
				return false, 0
			}
		}
	}
	for _, g := range b.Gaps {
		s, _ := fire.Spread(y, g.A, g.B)
		if was, _ := fire.Spread(b, g.A, g.B); !narrower(s, was) {
			return false, 0
		}
	}
	for _, house := range houses() {
		s, _ := fire.Costs(y, house, minute)
		if was, _ := fire.Costs(b, house, minute); !narrower(s, was) {
			return false, 0
		}
	}
	sure, may, _ := fire.Lost(y, minute)
	surely, perhaps, _ := fire.Lost(b, minute)
	return inside(surely, sure) && inside(may, perhaps), closed
}

// P11.10: one glance more never makes less known.
func TestGlancesTellMore(t *testing.T) {
	counts := map[bool]int{}
	closed := 0
	eachTrue(t, 300, func(b api.Blaze, x truth, c *rand.Rand) bool {
		if len(b.Glances) == api.MaxGlances {
			return true
		}
		ids := stacks(b)
		of := ids[c.Intn(len(ids))]
		minute := max(0, x.caught[of]-2+c.Intn(4))
		y, e := fire.Put(b, glance(9999, of, minute, x.had(of, minute) != (c.Intn(4) == 0)))
		is, f := fire.Can(y)
		counts[is]++
		if e != api.OK || f != api.OK || !is {
			return e == api.OK && f == api.OK
		}
		more, n := knowsMore(y, b, c.Intn(16))
		closed += n
		for _, bale := range bales(b) {
			l, _ := fire.Whose(y, bale)
			if was, _ := fire.Whose(b, bale); !slices.Equal(l, was) {
				return false
			}
		}
		return more
	})
	if counts[false] < 20 || counts[true] < 100 || closed < 150 {
		t.Error(counts, closed)
	}
}

// P11.11, N9: each bale that is lost is lost by one house; all houses together lose at least what is surely lost, and at most what may be.
func TestBurnedIsSomebodys(t *testing.T) {
	open := 0
	eachTrue(t, 300, func(b api.Blaze, x truth, c *rand.Rand) bool {
		minute := c.Intn(16)
		sure, may, e := fire.Lost(b, minute)
		if e != api.OK || !inside(sure, may) || !inside(may, bales(b)) {
			return false
		}
		// In each truth of the papers each bale is one house's: so as many are lost as burned, whoever holds the papers.
		least, most := len(may), 0
		for _, y := range others(c, b, x) {
			n := len(burned(b, y, minute))
			least, most = min(least, n), max(most, n)
		}
		lo, hi := 0, 0
		for house := 1; house <= 5; house++ {
			s, e := fire.Costs(b, house, minute)
			if s.Lo > s.Hi || e != api.OK {
				return false
			}
			lo, hi = lo+s.Lo, hi+s.Hi
		}
		for _, bale := range may {
			whose, e := fire.Whose(b, bale)
			if len(whose) == 0 || e != api.OK {
				return false
			}
			if len(whose) > 1 {
				open++
			}
		}
		return lo <= least && least >= len(sure) && hi >= most && most <= len(may) && hi >= len(sure) && lo <= len(may)
	})
	if open < 20 {
		t.Error(open)
	}
}

// P11.12: whose a bale is is told by its paper, or by its owner.
func TestPapersTellWhose(t *testing.T) {
	counts := map[bool]int{}
	eachTrue(t, 200, func(b api.Blaze, _ truth, _ *rand.Rand) bool {
		there := bales(b)
		for _, x := range b.House.Owners {
			want := ints(x.Owner)
			at := slices.IndexFunc(b.Books.Papers, func(y api.Paper) bool { return y.Bale == x.Bale })
			if at >= 0 {
				want, _ = paper.Holder(b.Books, b.Books.Papers[at].Id, b.Day)
			}
			l, e := fire.Whose(b, x.Bale)
			if !slices.Contains(there, x.Bale) {
				if len(l) > 0 || e != api.ErrNone {
					return false
				}
				continue
			}
			counts[at >= 0]++
			if !slices.Equal(l, want) || e != api.OK {
				return false
			}
		}
		return true
	})
	if counts[false] < 100 || counts[true] < 50 {
		t.Error(counts)
	}
}

// P11.13: the look that is told leaves as few stacks as any, whatever is seen.
func TestNoLookLeavesFewer(t *testing.T) {
	fewer := 0
	eachTrue(t, 400, func(b api.Blaze, _ truth, c *rand.Rand) bool {
		b = room(b)
		minute := c.Intn(16)
		of, left, e := fire.Ask(b, minute)
		began, _ := fire.Began(b)
		if e != api.OK {
			return false
		}
		if left < len(began) {
			fewer++
		}
		for _, id := range stacks(b) {
			most := 0
			for _, burns := range []bool{true, false} {
				if l, e := fire.Began(more(b, id, minute, burns)); e == api.OK {
					most = max(most, len(l))
				}
			}
			if most < left || id == of && most != left || id < of && most == left {
				return false
			}
		}
		return true
	})
	if fewer < 20 {
		t.Error(fewer)
	}
}

// P11.14, N10: without the glances that are told there is a truth, without fewer, or others before them, there is none.
func TestFewestAreFalse(t *testing.T) {
	counts := map[int]int{}
	s := large()
	s.odd = 35
	eachBlaze(t, 250, s, func(b api.Blaze, _ truth, _ *rand.Rand) bool {
		// Whether papers have a truth does not count.
		l, e := fire.Wrong(b)
		b.Books = api.Papers{Days: api.MaxTerm}
		want, few := testhelp.Fewest(numbers(b), api.MaxFalse, func(out []int) bool {
			y, e := fire.Strike(b, out)
			is, f := fire.Can(y)
			return is && e == api.OK && f == api.OK
		})
		if !few {
			counts[-1]++
			return len(l) == 0 && e == api.ErrMany
		}
		counts[len(l)]++
		return slices.Equal(l, want) && e == api.OK
	})
	if counts[-1] < 3 || counts[0] < 50 || counts[1] < 30 || counts[2] < 20 || counts[3] < 5 {
		t.Error(counts)
	}
}
