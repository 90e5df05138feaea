package grade_test

import (
	"math/rand"
	"slices"
	"testing"

	"middling/api"
	"middling/box"
	"middling/grade"
	"middling/testhelp"
)

// model is a small desk of which all truths are listed.
type model struct {
	api.Desk
	real  bool     // its Room has a truth
	leans [][]int  // all that classers can lean by
	just  [][]bool // of each look, whether it is just at -Lean, or above it, for points and lean together
}

func modelOf(d api.Desk) model {
	m := model{Desk: d, leans: [][]int{nil}}
	m.real, _ = box.Can(d.Room)
	for range d.Classers {
		var next [][]int
		for _, l := range m.leans {
			for n := -d.Lean; n <= d.Lean; n++ {
				next = append(next, append(slices.Clone(l), n))
			}
		}
		m.leans = next
	}
	for _, x := range d.Looks {
		m.just = append(m.just, m.sums(x))
	}
	return m
}

// sums tells which numbers points and lean can be together by a look.
func (m model) sums(x api.Look) []bool {
	var l []bool
	for n := -m.Lean; n <= 89+m.Lean; n++ {
		l = append(l, just(x, yellow(m.Room, x), n))
	}
	return l
}

// more returns the model with a look more, whatever its Number.
func (m model) more(x api.Look) model {
	m.Looks = append(slices.Clone(m.Looks), x)
	m.just = append(slices.Clone(m.just), m.sums(x))
	return m
}

// world is some truths with the same leans: each bale may have each of its points.
type world struct {
	leans  []int
	points [][]int
}

// worlds returns all truths in which some looks (by their indexes) are just.
func (m model) worlds(looks []int) []world {
	var l []world
	for _, leans := range m.leans {
		w := world{leans: leans}
		for _, b := range m.Bales {
			w.points = append(w.points, m.points(b, leans, looks))
		}
		if m.real && !slices.ContainsFunc(w.points, func(p []int) bool { return len(p) == 0 }) {
			l = append(l, w)
		}
	}
	return l
}

// points returns those that a bale can have by some looks, if classers lean so.
func (m model) points(bale int, leans, looks []int) []int {
	var l []int
	for n := range 90 {
		wrong := func(k int) bool {
			x := m.Looks[k]
			return x.Bale == bale && !m.just[k][n+leans[slices.Index(m.Classers, x.Classer)]+m.Lean]
		}
		if !slices.ContainsFunc(looks, wrong) {
			l = append(l, n)
		}
	}
	return l
}

// all returns the indexes of all looks.
func (m model) all() []int {
	var l []int
	for i := range m.Looks {
		l = append(l, i)
	}
	return l
}

// others returns the indexes of the looks that are not among some.
func (m model) others(l []int) []int {
	return slices.DeleteFunc(m.all(), func(i int) bool { return slices.Contains(l, i) })
}

// pointsIn returns which points a bale (by its index) has in some worlds, and leansIn by what a classer leans.
func pointsIn(l []world, bale int) []int {
	var v []int
	for _, w := range l {
		v = append(v, w.points[bale]...)
	}
	return testhelp.Sorted(v)
}

func leansIn(l []world, classer int) []int {
	var v []int
	for _, w := range l {
		v = append(v, w.leans[classer])
	}
	return testhelp.Sorted(v)
}

// tried runs a test for each of many small desks with their models.
func tried(t *testing.T, desks int, test func(m model) bool) {
	c := rand.New(rand.NewSource(1))
	for i := range desks {
		d, _ := anyDesk(c, [3]size{small(), leaning(), closely()}[i%3])
		if e := grade.Check(d); e != api.OK {
			t.Fatal(d, e)
		}
		if !test(modelOf(d)) {
			t.Fatal(d)
		}
	}
}

// triedTrue is the same for desks that have a truth, with all of these.
func triedTrue(t *testing.T, desks int, test func(m model, l []world) bool) {
	tried(t, desks, func(m model) bool {
		l := m.worlds(m.all())
		return len(l) == 0 || test(m, l)
	})
}

// P2.1, P2.2: there is a truth if one can be found; ErrBad says that there is none.
func TestCanByTruths(t *testing.T) {
	yes, no := 0, 0
	tried(t, 1500, func(m model) bool {
		some := len(m.worlds(m.all())) > 0
		if some {
			yes++
		} else {
			no++
		}
		is, e := grade.Can(m.Desk)
		ok := is == some && e == api.OK
		for _, b := range m.Bales {
			_, f := grade.Points(m.Desk, b)
			ok = ok && (f == api.ErrBad) == !some
		}
		return ok
	})
	if yes < 300 || no < 100 {
		t.Error(yes, no)
	}
}

// P2.2: bounds are the ends of what is just.
func TestBoundsByTruths(t *testing.T) {
	tried(t, 1000, func(m model) bool {
		ok := true
		for i, x := range m.Looks {
			var v []int
			for k, is := range m.just[i] {
				if is {
					v = append(v, k-m.Lean)
				}
			}
			s, e := grade.Bounds(m.Desk, x.Number)
			ok = ok && (m.real && e == api.OK && testhelp.Fills(s, v) || !m.real && e == api.ErrBad)
		}
		return ok
	})
}

// P2.2, P2.8, N1: points and grades are just what comes about.
func TestPointsByTruths(t *testing.T) {
	triedTrue(t, 1000, func(m model, l []world) bool {
		ok := true
		for i, b := range m.Bales {
			v := pointsIn(l, i)
			var grades []int
			for _, n := range v {
				grades = append(grades, gradeOf(n))
			}
			s, e := grade.Points(m.Desk, b)
			g, f := grade.Grades(m.Desk, b)
			ok = ok && testhelp.Fills(s, v) && e == api.OK && testhelp.Fills(g, testhelp.Sorted(grades)) && f == api.OK
		}
		return ok
	})
}

// P2.2: a bale is known to be as good as another one if it is in each truth.
func TestBetterByTruths(t *testing.T) {
	counts := map[uint8]int{}
	triedTrue(t, 1000, func(m model, l []world) bool {
		ok := true
		for i, a := range m.Bales {
			for j, b := range m.Bales {
				some, no := false, false
				for _, w := range l {
					p, q := w.points[i], w.points[j]
					some = some || i == j || p[0] <= q[len(q)-1]
					no = no || i != j && p[len(p)-1] > q[0]
				}
				want := uint8(api.KnownOpen)
				if !some {
					want = api.KnownNo
				} else if !no {
					want = api.KnownYes
				}
				counts[want]++
				k, e := grade.Better(m.Desk, a, b)
				ok = ok && k == want && e == api.OK
			}
		}
		return ok
	})
	if counts[api.KnownNo] < 50 || counts[api.KnownOpen] < 50 {
		t.Error(counts)
	}
}

// P2.3, P2.8: leans, sides and differences are just what comes about.
func TestLeanByTruths(t *testing.T) {
	sides := map[int]int{}
	triedTrue(t, 1500, func(m model, l []world) bool {
		ok := true
		for i, a := range m.Classers {
			v := leansIn(l, i)
			s, e := grade.Lean(m.Desk, a)
			n, f := grade.Leans(m.Desk, a)
			sides[n]++
			ok = ok && testhelp.Fills(s, v) && e == api.OK && n == side(v) && f == api.OK
			for j, b := range m.Classers {
				var v []int
				for _, w := range l {
					v = append(v, w.leans[i]-w.leans[j])
				}
				s, e := grade.Differ(m.Desk, a, b)
				ok = ok && testhelp.Fills(s, testhelp.Sorted(v)) && e == api.OK
			}
		}
		return ok
	})
	if sides[-1] < 30 || sides[1] < 30 {
		t.Error(sides)
	}
}

// side is to which side all of these are.
func side(v []int) int {
	switch {
	case v[0] > 0:
		return 1
	case v[len(v)-1] < 0:
		return -1
	}
	return 0
}

// P2.3, P2.10: the fewest bales that show a lean.
func TestProofByTruths(t *testing.T) {
	lengths := map[int]int{}
	triedTrue(t, 2500, func(m model, l []world) bool {
		ok := true
		for i, a := range m.Classers {
			k, e := grade.Proof(m.Desk, a)
			want := side(leansIn(l, i))
			if want == 0 {
				ok = ok && len(k) == 0 && e == api.ErrNone
				continue
			}
			for _, x := range testhelp.Sets(len(m.Bales)) {
				bales := testhelp.Chosen(m.Bales, x)
				looks := slices.DeleteFunc(m.all(), func(i int) bool { return !slices.Contains(bales, m.Looks[i].Bale) })
				if side(leansIn(m.worlds(looks), i)) == want {
					lengths[len(x)]++
					ok = ok && slices.Equal(k, bales) && e == api.OK
					break
				}
			}
		}
		return ok
	})
	if lengths[1] < 30 || lengths[2] < 3 {
		t.Error(lengths)
	}
}

// saidIn returns what a classer can say of a bale (both by their indexes) in some worlds.
func saidIn(l []world, classer, bale int, yellow api.Span) []int {
	var v []int
	for _, w := range l {
		for _, n := range w.points[bale] {
			for y := yellow.Lo; y <= yellow.Hi; y++ {
				v = append(v, gradeOf(n+w.leans[classer]-y))
			}
		}
	}
	return testhelp.Sorted(v)
}

// places returns each month with each box that is there.
func places(r api.Room) [][2]int {
	var l [][2]int
	for _, b := range r.Boxes {
		for m := b.Made; m < r.Months; m++ {
			l = append(l, [2]int{m, b.Id})
		}
	}
	return l
}

// P2.4, P2.12: what is said is said in some truth.
func TestSaysByTruths(t *testing.T) {
	triedTrue(t, 500, func(m model, l []world) bool {
		ok := true
		for _, p := range places(m.Room) {
			s, _ := box.Yellow(m.Room, p[1], p[0])
			for i, a := range m.Classers {
				for j, b := range m.Bales {
					g, e := grade.Says(m.Desk, a, b, p[0], p[1])
					ok = ok && testhelp.Fills(g, saidIn(l, i, j, s)) && e == api.OK
				}
			}
		}
		return ok
	})
}

// P2.5, P2.14: what the house says, told by going through all looks again and again.
func TestDecideByLooks(t *testing.T) {
	c := rand.New(rand.NewSource(2))
	decided, third := 0, 0
	for range 2000 {
		d, _ := anyDesk(c, large())
		for i := range d.Looks {
			d.Looks[i].Said = 4 + c.Intn(3)
			d.Looks[i].Bale = d.Bales[c.Intn(min(2, len(d.Bales)))]
		}
		var open []int
		for _, b := range d.Bales {
			var l []int
			heard := map[int]bool{}
			for _, x := range d.Looks {
				if x.Bale == b && !heard[x.Classer] {
					heard[x.Classer] = true
					l = append(l, x.Said)
				}
			}
			want := 0
			if len(l) > 1 && l[0] == l[1] {
				want = l[0]
			} else if len(l) > 2 {
				three := slices.Clone(l[:3])
				slices.Sort(three)
				want = three[1]
			} else if len(l) == 2 {
				open = append(open, b)
			}
			n, e := grade.Decide(d, b)
			if n != want || (e == api.OK) != (want > 0) || e != api.OK && e != api.ErrNone {
				t.Fatal(d, b, n, e)
			}
			if want > 0 {
				decided++
			}
		}
		third += len(open)
		if l, e := grade.Third(d); !slices.Equal(l, open) || e != api.OK {
			t.Fatal(d, l, e)
		}
	}
	if decided < 500 || third < 100 {
		t.Error(decided, third)
	}
}

// P2.6, P2.15: the fewest looks that leave points as they are.
func TestWhyByTruths(t *testing.T) {
	lengths := map[int]int{}
	triedTrue(t, 400, func(m model, l []world) bool {
		ok := true
		for i, b := range m.Bales {
			want := pointsIn(l, i)
			k, e := grade.Why(m.Desk, b)
			for _, x := range testhelp.Sets(len(m.Looks)) {
				if slices.Equal(pointsIn(m.worlds(x), i), want) {
					lengths[len(x)]++
					ok = ok && slices.Equal(k, testhelp.Chosen(numbers(m.Desk), x)) && e == api.OK
					break
				}
			}
		}
		return ok
	})
	if lengths[0] < 30 || lengths[1] < 30 || lengths[2] < 10 || lengths[3] == 0 {
		t.Error(lengths)
	}
}

// P2.6, P2.16: the look that leaves least at worst.
func TestAskByTruths(t *testing.T) {
	triedTrue(t, 150, func(m model, l []world) bool {
		ok := true
		for _, p := range places(m.Room) {
			s, _ := box.Yellow(m.Room, p[1], p[0])
			a, b, left := 0, 0, -1
			for i, x := range m.Classers {
				for j, y := range m.Bales {
					most := 0
					for _, said := range saidIn(l, i, j, s) {
						more := m.more(look(0, x, y, p[0], p[1], said))
						most = max(most, leftIn(more))
					}
					if left < 0 || most < left {
						a, b, left = x, y, most
					}
				}
			}
			c, d, n, e := grade.Ask(m.Desk, p[0], p[1])
			if left < 0 {
				ok = ok && c == 0 && d == 0 && n == 0 && e == api.ErrNone
			} else {
				ok = ok && c == a && d == b && n == left && e == api.OK
			}
		}
		return ok
	})
}

// leftIn returns by how much the ends of all bales' points differ.
func leftIn(m model) int {
	l := m.worlds(m.all())
	n := 0
	for i := range m.Bales {
		v := pointsIn(l, i)
		n += v[len(v)-1] - v[0]
	}
	return n
}

// P2.7, P2.11, N10: the fewest looks without which there is a truth.
func TestWrongByTruths(t *testing.T) {
	counts := map[int]int{}
	tried(t, 1000, func(m model) bool {
		l, e := grade.Wrong(m.Desk)
		if !m.real {
			counts[-2]++
			return len(l) == 0 && e == api.ErrBad
		}
		for _, x := range testhelp.Sets(len(m.Looks)) {
			if len(x) <= api.MaxWrong && len(m.worlds(m.others(x))) > 0 {
				counts[len(x)]++
				return slices.Equal(l, testhelp.Chosen(numbers(m.Desk), x)) && e == api.OK
			}
		}
		counts[-1]++
		return len(l) == 0 && e == api.ErrMany
	})
	if counts[-2] < 20 || counts[0] < 30 || counts[1] < 30 || counts[2] < 5 {
		t.Error(counts)
	}
}
