package grade_test

import (
	"math"
	"math/rand"
	"slices"
	"testing"

	"middling/api"
	"middling/grade"
	"middling/testhelp"
)

// eachTrue runs a test for each of some large desks that have a truth, and for one that is known.
func eachTrue(t *testing.T, desks int, test func(d api.Desk, h hidden, c *rand.Rand) bool) {
	c := rand.New(rand.NewSource(3))
	for range desks {
		s := large()
		if c.Intn(2) == 0 {
			s.lean, s.wide, s.near = span(5, 12), 1, 5
		}
		d, h := trueDesk(c, s)
		if !test(d, h, c) {
			t.Fatal(d)
		}
	}
}

func points(d api.Desk, bale int) api.Span {
	s, _ := grade.Points(d, bale)
	return s
}

func lean(d api.Desk, classer int) api.Span {
	s, _ := grade.Lean(d, classer)
	return s
}

func can(d api.Desk) bool {
	is, e := grade.Can(d)
	return is && e == api.OK
}

func inside(a, b api.Span) bool { return a.Lo >= b.Lo && a.Hi <= b.Hi }

func has(s api.Span, n int) bool { return inside(span(n, n), s) }

// room for a look more: without the last one, if there are MaxLooks.
func shorter(d api.Desk) api.Desk {
	d.Looks = d.Looks[:min(len(d.Looks), api.MaxLooks-1)]
	return d
}

// P2.8, N1: each bale has points and a grade within what is told, and each classer a lean, in a truth that is known.
func TestTruthIsWithin(t *testing.T) {
	eachTrue(t, 300, func(d api.Desk, h hidden, _ *rand.Rand) bool {
		ok := true
		for _, b := range d.Bales {
			g, _ := grade.Grades(d, b)
			ok = ok && has(points(d, b), h.points[b]) && has(g, gradeOf(h.points[b])) && inside(points(d, b), span(0, 89))
		}
		for _, k := range d.Classers {
			ok = ok && has(lean(d, k), h.leans[k]) && inside(lean(d, k), span(-d.Lean, d.Lean))
		}
		for _, x := range d.Looks {
			s, e := grade.Bounds(d, x.Number)
			ok = ok && e == api.OK && has(s, h.points[x.Bale]+h.leans[x.Classer])
			g, _ := grade.Says(d, x.Classer, x.Bale, x.Month, x.Box)
			ok = ok && g.Lo <= x.Said && x.Said <= g.Hi
		}
		return ok
	})
}

// P2.9: one look more never makes less known.
func TestMoreIsKnown(t *testing.T) {
	tighter := 0
	eachTrue(t, 200, func(d api.Desk, h hidden, c *rand.Rand) bool {
		d = shorter(d)
		x, ok := anyLook(c, d, h, 9000)
		if !ok {
			return true
		}
		y, e := grade.Put(d, x)
		if e != api.OK || !can(y) {
			return false
		}
		for _, b := range d.Bales {
			if points(y, b) != points(d, b) {
				tighter++
			}
			ok = ok && inside(points(y, b), points(d, b))
			for _, a := range d.Bales {
				k, _ := grade.Better(d, a, b)
				l, _ := grade.Better(y, a, b)
				ok = ok && (k == api.KnownOpen || k == l)
			}
		}
		for _, a := range d.Classers {
			n, _ := grade.Leans(d, a)
			m, _ := grade.Leans(y, a)
			ok = ok && inside(lean(y, a), lean(d, a)) && (n == 0 || n == m)
		}
		return ok
	})
	if tighter < 30 {
		t.Error(tighter)
	}
}

// without returns the desk without the looks that are out.
func without(d api.Desk, out func(api.Look) bool) api.Desk {
	d.Looks = slices.DeleteFunc(slices.Clone(d.Looks), out)
	return d
}

// P2.10: with the looks at the bales that are told the lean is sure, with no fewer ones, nor others before them.
func TestFewestBalesProve(t *testing.T) {
	lengths := map[int]int{}
	eachTrue(t, 300, func(d api.Desk, _ hidden, _ *rand.Rand) bool {
		for _, a := range d.Classers {
			n, _ := grade.Leans(d, a)
			l, e := grade.Proof(d, a)
			if (n == 0) != (e == api.ErrNone) {
				return false
			}
			for _, x := range testhelp.Sets(len(d.Bales)) {
				bales := testhelp.Chosen(d.Bales, x)
				alone := without(d, func(x api.Look) bool { return !slices.Contains(bales, x.Bale) })
				if m, _ := grade.Leans(alone, a); m == n {
					lengths[len(x)]++
					if !slices.Equal(l, bales) {
						return false
					}
					break
				}
			}
		}
		return true
	})
	if lengths[0] == 0 || lengths[1] < 20 || lengths[2] == 0 {
		t.Error(lengths)
	}
}

// P2.11, N10: without the looks that are told there is a truth, without fewer, or others before them, there is none.
func TestFewestAreUnjust(t *testing.T) {
	c := rand.New(rand.NewSource(4))
	counts := map[int]int{}
	for range 300 {
		s := large()
		s.lean, s.odd = span(0, 20), c.Intn(60)
		d, _ := anyDesk(c, s)
		l, e := grade.Wrong(d)
		if e == api.ErrBad {
			counts[-2]++
			continue
		}
		want, found := []int(nil), false
		for _, x := range testhelp.Sets(len(d.Looks)) {
			out := testhelp.Chosen(numbers(d), x)
			if len(x) > api.MaxWrong {
				break
			}
			if found = can(without(d, func(x api.Look) bool { return slices.Contains(out, x.Number) })); found {
				want = out
				break
			}
		}
		counts[len(want)]++
		if !slices.Equal(l, want) || found != (e == api.OK) || !found && e != api.ErrMany {
			t.Fatal(d, l, e)
		}
		if !found {
			counts[-1]++
		}
	}
	if counts[-1] < 5 || counts[0] < 20 || counts[1] < 20 || counts[2] < 10 || counts[3] < 5 {
		t.Error(counts)
	}
}

// P2.12: a look that says what can be said leaves a truth, any other one leaves none.
func TestSaidLeavesTruth(t *testing.T) {
	eachTrue(t, 100, func(d api.Desk, h hidden, c *rand.Rand) bool {
		d = shorter(d)
		x, ok := anyLook(c, d, h, 9000)
		if !ok {
			return true
		}
		s, e := grade.Says(d, x.Classer, x.Bale, x.Month, x.Box)
		if e != api.OK || s.Lo < 1 || s.Hi > api.MaxGrade || s.Lo > s.Hi {
			return false
		}
		for n := 1; n <= api.MaxGrade; n++ {
			x.Said = n
			y, e := grade.Put(d, x)
			if e != api.OK || can(y) != has(s, n) {
				return false
			}
		}
		return true
	})
}

// P2.13: leans that differ add up, and are told the other way round alike.
func TestLeansAddUp(t *testing.T) {
	eachTrue(t, 200, func(d api.Desk, _ hidden, _ *rand.Rand) bool {
		differ := func(a, b int) api.Span {
			s, _ := grade.Differ(d, a, b)
			return s
		}
		ok := true
		for _, a := range d.Classers {
			ok = ok && differ(a, a) == span(0, 0)
			for _, b := range d.Classers {
				x, y := differ(a, b), differ(b, a)
				p, q := lean(d, a), lean(d, b)
				ok = ok && x.Lo == -y.Hi && x.Hi <= p.Hi-q.Lo || a == b
				for _, k := range d.Classers {
					v, w := differ(a, k), differ(k, b)
					ok = ok && x.Hi <= v.Hi+w.Hi && x.Lo >= v.Lo+w.Lo
				}
			}
		}
		return ok
	})
}

// P2.14: what the house says lies between what two classers said; who looks again changes nothing.
func TestHouseLiesBetween(t *testing.T) {
	c := rand.New(rand.NewSource(5))
	found := 0
	for range 1000 {
		s := large()
		s.bales, s.odd = 2, 80
		d, _ := anyDesk(c, s)
		d = shorter(d)
		for _, b := range d.Bales {
			n, e := grade.Decide(d, b)
			var said []int
			for _, x := range d.Looks {
				if x.Bale == b {
					said = append(said, x.Said)
				}
			}
			if e == api.OK && (n < slices.Min(said) || n > slices.Max(said)) {
				t.Fatal(d, b, n)
			}
			for _, x := range d.Looks {
				if x.Bale != b {
					continue
				}
				found++
				x.Number, x.Said = 9000, 1+c.Intn(api.MaxGrade)
				y, _ := grade.Put(d, x)
				m, f := grade.Decide(y, b)
				p, _ := grade.Third(d)
				q, _ := grade.Third(y)
				if n != m || e != f || !slices.Equal(p, q) {
					t.Fatal(d, x, n, m)
				}
			}
		}
	}
	if found < 500 {
		t.Error(found)
	}
}

// P2.15: the looks that are told leave points as they are, no fewer ones, nor others before them.
func TestFewestLooksProve(t *testing.T) {
	lengths := map[int]int{}
	eachTrue(t, 15, func(d api.Desk, _ hidden, c *rand.Rand) bool {
		if len(d.Bales) == 0 {
			return true
		}
		b := d.Bales[c.Intn(len(d.Bales))]
		l, e := grade.Why(d, b)
		if e != api.OK {
			return false
		}
		for _, x := range testhelp.Sets(len(d.Looks)) {
			looks := testhelp.Chosen(numbers(d), x)
			if points(without(d, func(x api.Look) bool { return !slices.Contains(looks, x.Number) }), b) == points(d, b) {
				lengths[len(x)]++
				return slices.Equal(l, looks)
			}
		}
		return false
	})
	if len(lengths) < 3 {
		t.Error(lengths)
	}
}

// worstLeft is how much a look leaves at worst: put onto the desk, whatever can be said.
func worstLeft(d api.Desk, x api.Look) int {
	most := 0
	for x.Said = 1; x.Said <= api.MaxGrade; x.Said++ {
		y, _ := grade.Put(d, x)
		if !can(y) {
			continue
		}
		n := 0
		for _, b := range y.Bales {
			n += points(y, b).Hi - points(y, b).Lo
		}
		most = max(most, n)
	}
	return most
}

// P2.16: no look leaves less at worst than the one that is asked for, and none before it as little.
func TestLeastIsLeft(t *testing.T) {
	eachTrue(t, 12, func(d api.Desk, _ hidden, c *rand.Rand) bool {
		d = shorter(d)
		place := places(d.Room)[0]
		a, b, left, e := grade.Ask(d, place[0], place[1])
		if len(d.Bales) == 0 || len(d.Classers) == 0 {
			return e == api.ErrNone
		}
		if e != api.OK || !slices.Contains(d.Classers, a) || !slices.Contains(d.Bales, b) {
			return false
		}
		for _, k := range d.Classers {
			for _, x := range d.Bales {
				n := worstLeft(d, look(9000, k, x, place[0], place[1], 0))
				before := k < a || k == a && x < b
				if n < left || n == left && before || k == a && x == b && n != left {
					return false
				}
			}
		}
		return true
	})
}

// P2.17: who gets the lower grade of one classer, beside boxes that surely have yellowed alike, surely is the better one.
func TestLowerGradeIsBetter(t *testing.T) {
	found := 0
	eachTrue(t, 300, func(d api.Desk, _ hidden, _ *rand.Rand) bool {
		for _, x := range d.Looks {
			for _, y := range d.Looks {
				p, q := yellow(d.Room, x), yellow(d.Room, y)
				if x.Classer != y.Classer || x.Said >= y.Said || p != q || p.Lo != p.Hi {
					continue
				}
				found++
				k, e := grade.Better(d, x.Bale, y.Bale)
				l, f := grade.Better(d, y.Bale, x.Bale)
				if k != api.KnownYes || e != api.OK || l != api.KnownNo || f != api.OK {
					return false
				}
			}
		}
		return true
	})
	if found < 100 {
		t.Error(found)
	}
}

// P1, R5, R7: each call ends with an answer, whatever its arguments are.
func TestAnyValue(t *testing.T) {
	odd := ints(math.MinInt, math.MinInt+1, -10000, -1, 0, 1, 2, 3, 9, 30, 101, 10000, math.MaxInt-1, math.MaxInt)
	c := rand.New(rand.NewSource(6))
	some := func() int { return odd[c.Intn(len(odd))] }
	list := func() []int { return slices.Repeat(ints(some(), some()), c.Intn(4)) }
	for range 3000 {
		d := example()
		switch c.Intn(4) {
		case 0:
			d = api.Desk{Room: api.Room{Months: some(), Step: some(), Ages: []api.Span{span(some(), some())}}, Lean: some()}
		case 1:
			d.Lean, d.Bales = some(), list()
		case 2:
			d.Classers = list()
		}
		for range c.Intn(3) {
			d.Looks = append(d.Looks, look(some(), some(), some(), some(), some(), some()))
		}
		for _, x := range calls() {
			if is, e := x.do(d, asks{some(), some(), some(), some(), some(), some(), some()}); e != api.OK && !is {
				t.Fatal(x.name, d, e)
			}
		}
		grade.Put(d, look(some(), some(), some(), some(), some(), some()))
		grade.Strike(d, list())
	}
}

// P2.2, P2.3, P2.6: what follows by way of all bales and all classers is followed to its end.
func TestLongWays(t *testing.T) {
	d := plain(30)
	d.Bales = ints(1, 2, 3, 4)
	// Of the bales 2, 3 and 4 one classer after the other says one grade more than the one before.
	for i, x := range [][3]int{{1, 1, 2}, {1, 2, 3}, {2, 2, 4}, {2, 3, 4}, {3, 3, 5}, {3, 4, 5}, {4, 4, 6}} {
		d.Looks = append(d.Looks, look(i+1, x[0], x[1], 0, 1, x[2]))
	}
	for i, x := range []struct {
		a, b int
		want api.Span
	}{{2, 1, span(1, 19)}, {3, 2, span(1, 19)}, {4, 3, span(1, 19)}, {3, 1, span(2, 38)}, {4, 1, span(3, 57)}} {
		if s, e := grade.Differ(d, x.a, x.b); s != x.want || e != api.OK {
			t.Error(i, s, e)
		}
	}
	for n, want := range map[int]bool{0: false, 1: false, 2: true, 30: true} {
		d.Lean = n
		if is := can(d); is != want {
			t.Error(n, is)
		}
	}
	// From -2 to 2 there is just room for this: 1 leans by -1, at most.
	d.Lean = 2
	if s, e := grade.Lean(d, 1); s != span(-2, -1) || e != api.OK {
		t.Error(s, e)
	}
	if s, e := grade.Points(d, 1); s != span(11, 21) || e != api.OK {
		t.Error(s, e)
	}
	if l, e := grade.Why(d, 1); !slices.Equal(l, ints(1, 2, 3, 4, 5, 6, 7)) || e != api.OK {
		t.Error(l, e)
	}
	if l, e := grade.Proof(d, 1); !slices.Equal(l, ints(2, 3, 4)) || e != api.OK {
		t.Error(l, e)
	}
}
