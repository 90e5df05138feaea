package box_test

import (
	"math"
	"math/rand"
	"slices"
	"testing"

	"middling/api"
	"middling/box"
	"middling/testhelp"
)

// eachTrue runs a test for each of some large rooms that have a truth.
func eachTrue(t *testing.T, rooms int, test func(r api.Room, c *rand.Rand) bool) {
	c := rand.New(rand.NewSource(2))
	for range rooms {
		r := trueRoom(c, large())
		if !test(r, c) {
			t.Fatal(r)
		}
	}
}

func yellow(r api.Room, b, month int) api.Span {
	s, _ := box.Yellow(r, b, month)
	return s
}

func differ(r api.Room, a, b, month int) api.Span {
	s, _ := box.Differ(r, a, b, month)
	return s
}

func thereIn(r api.Room, month int) []int {
	var l []int
	for _, b := range r.Boxes {
		if isThere(b, month) {
			l = append(l, b.Id)
		}
	}
	return l
}

// P1.9: the other way round it is alike, and no more by way of a third one.
func TestDifferencesAddUp(t *testing.T) {
	eachTrue(t, 60, func(r api.Room, _ *rand.Rand) bool {
		ok := true
		for m := range r.Months {
			for _, a := range thereIn(r, m) {
				for _, b := range thereIn(r, m) {
					if a == b {
						continue
					}
					x, y := differ(r, a, b, m), differ(r, b, a, m)
					p, q := yellow(r, a, m), yellow(r, b, m)
					ok = ok && x.Lo == -y.Hi && x.Hi == -y.Lo && x.Lo <= x.Hi && x.Hi <= p.Hi-q.Lo && x.Lo >= p.Lo-q.Hi
					for _, d := range thereIn(r, m) {
						if d != a && d != b {
							v, w := differ(r, a, d, m), differ(r, d, b, m)
							ok = ok && x.Hi <= v.Hi+w.Hi && x.Lo >= v.Lo+w.Lo
						}
					}
				}
			}
		}
		return ok
	})
}

// P1.10: nobody gets less yellow, nor grows by more than Step.
func TestNobodyGoesBack(t *testing.T) {
	eachTrue(t, 150, func(r api.Room, _ *rand.Rand) bool {
		ok := true
		for _, b := range r.Boxes {
			for m := b.Made; m < r.Months; m++ {
				x := yellow(r, b.Id, m)
				ok = ok && x.Lo >= r.Ages[m-b.Made].Lo && x.Hi <= r.Ages[m-b.Made].Hi && x.Lo <= x.Hi
				if m > b.Made {
					y := yellow(r, b.Id, m-1)
					ok = ok && y.Lo <= x.Lo && y.Hi <= x.Hi && x.Lo <= y.Lo+r.Step && x.Hi <= y.Hi+r.Step
				}
			}
		}
		return ok
	})
}

// P1.11: one match more never makes less known.
func TestMoreIsKnown(t *testing.T) {
	tighter, contradicted := 0, 0
	eachTrue(t, 150, func(r api.Room, c *rand.Rand) bool {
		x, ok := anyMatch(c, r, large(), 9000)
		y, e := box.Put(r, x)
		if !ok || e != api.OK {
			return len(r.Boxes) < 2 || len(r.Matches) == api.MaxMatches
		}
		if is, _ := box.Can(y); !is {
			contradicted++
			return true
		}
		for _, b := range r.Boxes {
			for m := b.Made; m < r.Months; m++ {
				p, q := yellow(r, b.Id, m), yellow(y, b.Id, m)
				if p != q {
					tighter++
				}
				if q.Lo < p.Lo || q.Hi > p.Hi || !staysKnown(r, y, b.Id, m, (p.Lo+p.Hi)/2) {
					return false
				}
			}
		}
		d := differ(y, x.A, x.B, x.Month)
		return d.Lo >= x.By.Lo && d.Hi <= x.By.Hi
	})
	if tighter < 10 || contradicted == 0 {
		t.Error(tighter, contradicted)
	}
}

// staysKnown reports whether what is known in r is known in y as well.
func staysKnown(r, y api.Room, b, month, points int) bool {
	k, _ := box.Known(r, b, month, points)
	l, _ := box.Known(y, b, month, points)
	return k == api.KnownOpen || k == l
}

// P1.12: the matches that are told prove the span, and no fewer, nor others before them.
func TestFewestProve(t *testing.T) {
	lengths := map[int]bool{}
	eachTrue(t, 40, func(r api.Room, c *rand.Rand) bool {
		if len(r.Boxes) == 0 {
			return true
		}
		b := r.Boxes[c.Intn(len(r.Boxes))]
		m := b.Made + c.Intn(r.Months-b.Made)
		l, e := box.Why(r, b.Id, m)
		lengths[len(l)] = true
		if e != api.OK {
			return false
		}
		for _, x := range testhelp.Sets(len(r.Matches)) {
			alone, _ := box.Strike(r, outside(r, testhelp.Chosen(numbers(r), x)))
			if yellow(alone, b.Id, m) == yellow(r, b.Id, m) {
				return slices.Equal(l, testhelp.Chosen(numbers(r), x))
			}
		}
		return false
	})
	if len(lengths) < 3 {
		t.Error(lengths)
	}
}

// outside returns the Numbers of the other matches.
func outside(r api.Room, l []int) []int {
	return slices.DeleteFunc(numbers(r), func(n int) bool { return slices.Contains(l, n) })
}

// P1.13, N10: without the matches that are told there is a truth, with fewer left out, or others before them, there is none.
func TestFewestAreFalse(t *testing.T) {
	c := rand.New(rand.NewSource(3))
	lengths := map[int]bool{}
	for range 400 {
		r := anyRoom(c, large())
		l, e := box.Wrong(r)
		if e == api.OK {
			lengths[len(l)] = true
		} else {
			lengths[-1] = true
		}
		var want []int
		found := false
		for _, x := range testhelp.Sets(len(r.Matches)) {
			y, _ := box.Strike(r, testhelp.Chosen(numbers(r), x))
			if is, _ := box.Can(y); is && len(x) <= api.MaxFalse {
				want, found = testhelp.Chosen(numbers(r), x), true
				break
			}
		}
		if found && (e != api.OK || !slices.Equal(l, want)) || !found && (e != api.ErrMany || len(l) > 0) {
			t.Fatal(r, l, e, want)
		}
	}
	if !lengths[0] || !lengths[1] || !lengths[2] || !lengths[-1] {
		t.Error(lengths)
	}
}

// P1.14: somebody is the freshest; who surely is less yellow than another one is so alone of both.
func TestSomebodyIsFresh(t *testing.T) {
	alone := 0
	eachTrue(t, 100, func(r api.Room, _ *rand.Rand) bool {
		for m := range r.Months {
			there := thereIn(r, m)
			l, e := box.Fresh(r, m)
			if e != api.OK || len(there) > 0 && len(l) == 0 || !slices.IsSorted(l) {
				return false
			}
			for _, a := range there {
				for _, b := range there {
					if a != b && differ(r, a, b, m).Hi < 0 {
						alone++
						if slices.Contains(l, b) {
							return false
						}
					}
				}
			}
		}
		return true
	})
	if alone < 20 {
		t.Error(alone)
	}
}

// P1.15: what is due is due by nobody before, and just by whom it is told.
func TestNobodyIsDueBefore(t *testing.T) {
	eachTrue(t, 60, func(r api.Room, c *rand.Rand) bool {
		n := c.Intn(40)
		month, l, e := box.Due(r, n)
		if e == api.ErrNone {
			month = r.Months
		}
		for _, b := range r.Boxes {
			m, f := box.Perhaps(r, b.Id, n+1)
			if f == api.ErrNone {
				m = r.Months
			}
			if m < month || (m == month && e == api.OK) != slices.Contains(l, b.Id) {
				return false
			}
		}
		return slices.IsSorted(l)
	})
}

// P1.16: no pair is known less than the one that is asked, and none before it as little.
func TestLeastIsAsked(t *testing.T) {
	eachTrue(t, 60, func(r api.Room, _ *rand.Rand) bool {
		for m := range r.Months {
			there := thereIn(r, m)
			a, b, wide, e := box.Ask(r, m)
			if len(there) < 2 {
				if e != api.ErrNone {
					return false
				}
				continue
			}
			for i, x := range there {
				for _, y := range there[i+1:] {
					s := differ(r, x, y, m)
					n := s.Hi - s.Lo
					before := x < a || x == a && y < b
					if n > wide || n == wide && before || x == a && y == b && n != wide {
						return false
					}
				}
			}
		}
		return true
	})
}

// P1, R5, R7: each call ends with an answer, whatever its arguments are.
func TestAnyValue(t *testing.T) {
	odd := ints(math.MinInt, math.MinInt+1, -10000, -1, 0, 1, 2, 4, 60, 10000, math.MaxInt-1, math.MaxInt)
	c := rand.New(rand.NewSource(4))
	some := func() int { return odd[c.Intn(len(odd))] }
	list := func() []api.Span { return slices.Repeat([]api.Span{span(some(), some())}, c.Intn(14)) }
	for range 3000 {
		r := api.Room{Months: some(), Step: some(), Ages: list()}
		if c.Intn(2) == 0 {
			r = example(first())
		}
		for range c.Intn(6) {
			r.Boxes = append(r.Boxes, api.Box{Id: some(), Made: some()})
		}
		for range c.Intn(10) {
			r.Matches = append(r.Matches, match(some(), some(), some(), some(), some(), some()))
		}
		for _, x := range calls() {
			if is, e := x.do(r, some(), some(), some()); e != api.OK && !is {
				t.Fatal(x.name, r, e)
			}
		}
		box.Known(r, some(), some(), some())
		box.Perhaps(r, some(), some())
		box.Surely(r, some(), some())
		box.Due(r, some())
		box.Put(r, match(some(), some(), some(), some(), some(), some()))
		box.Strike(r, ints(some(), some()))
		box.Add(r, api.Box{Id: some(), Made: some()})
	}
}

// P1.2: ways through all months of all boxes are followed to their ends.
func TestLongWays(t *testing.T) {
	r := api.Room{Months: 12, Step: 1}
	for range 12 {
		r.Ages = append(r.Ages, span(0, 60))
	}
	r.Boxes = []api.Box{{Id: 1}, {Id: 2}, {Id: 3}, {Id: 4}}
	r.Matches = []api.Match{match(1, 11, 2, 1, 1, 1), match(2, 0, 3, 2, 1, 1), match(3, 11, 4, 3, 1, 1)}
	for i, x := range []struct {
		box, month int
		want       api.Span
	}{{1, 0, span(0, 59)}, {2, 0, span(0, 58)}, {4, 0, span(0, 60)}, {3, 0, span(1, 59)}, {4, 11, span(2, 60)}, {1, 11, span(0, 59)}} {
		if s, e := box.Yellow(r, x.box, x.month); s != x.want || e != api.OK {
			t.Error(i, s, e)
		}
	}
	// 4 may have grown by 11 since 3 was matched in month 0, 2 by 11 since then, and each match adds one.
	r.Matches = append(r.Matches, match(4, 0, 4, 1, 26, 60))
	if is, e := box.Can(r); is || e != api.OK {
		t.Error(is, e)
	}
	r.Matches[3].By.Lo = 25
	if is, e := box.Can(r); !is || e != api.OK {
		t.Error(is, e)
	}
}
