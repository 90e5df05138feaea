package box_test

import (
	"math/rand"
	"slices"
	"testing"

	"middling/api"
	"middling/box"
	"middling/testhelp"
)

// truth is what each box (by its index) has yellowed in each month, and which matches (by their indexes) are so, of a room without them.
type truth struct {
	points [3][3]int
	so     int
}

// courses returns all that a box can do by its ages and the step alone.
func courses(r api.Room, b api.Box) [][3]int {
	l := [][3]int{{}}
	for m := b.Made; m < r.Months; m++ {
		var next [][3]int
		s := r.Ages[m-b.Made]
		for _, x := range l {
			for n := s.Lo; n <= s.Hi; n++ {
				if m > b.Made && (n < x[m-1] || n > x[m-1]+r.Step) {
					continue
				}
				y := x
				y[m] = n
				next = append(next, y)
			}
		}
		l = next
	}
	return l
}

// truths returns all truths of a room without its matches, with those that are so.
func truths(r api.Room) []truth {
	l := []truth{{}}
	for i, b := range r.Boxes {
		var next []truth
		for _, c := range courses(r, b) {
			for _, x := range l {
				x.points[i] = c
				next = append(next, x)
			}
		}
		l = next
	}
	at := func(id int) int { return slices.IndexFunc(r.Boxes, func(b api.Box) bool { return b.Id == id }) }
	for i := range l {
		for k, m := range r.Matches {
			d := l[i].points[at(m.A)][m.Month] - l[i].points[at(m.B)][m.Month]
			if d >= m.By.Lo && d <= m.By.Hi {
				l[i].so |= 1 << k
			}
		}
	}
	return l
}

// kept returns the truths in which some matches are so.
func kept(l []truth, matches int) []truth {
	var k []truth
	for _, x := range l {
		if x.so&matches == matches {
			k = append(k, x)
		}
	}
	return k
}

func all(r api.Room) int { return 1<<len(r.Matches) - 1 }

// mask returns a set of indexes as bits.
func mask(l []int) int {
	n := 0
	for _, i := range l {
		n |= 1 << i
	}
	return n
}

// values returns which numbers come about, in increasing order.
func values(l []truth, f func(truth) int) []int {
	var v []int
	for _, x := range l {
		v = append(v, f(x))
	}
	return testhelp.Sorted(v)
}

// tried runs a test for each of many small rooms with all their truths.
func tried(t *testing.T, rooms int, test func(r api.Room, l []truth) bool) {
	c := rand.New(rand.NewSource(1))
	for range rooms {
		r := anyRoom(c, small())
		if e := box.Check(r); e != api.OK {
			t.Fatal(r, e)
		}
		if !test(r, truths(r)) {
			t.Fatal(r)
		}
	}
}

// triedTrue is the same for rooms that have a truth, and their own truths.
func triedTrue(t *testing.T, rooms int, test func(r api.Room, l []truth) bool) {
	tried(t, rooms, func(r api.Room, l []truth) bool {
		l = kept(l, all(r))
		return len(l) == 0 || test(r, l)
	})
}

// P1.1, P1.2: there is a truth if one can be found; ErrBad says that there is none.
func TestCanByTruths(t *testing.T) {
	yes, no := 0, 0
	tried(t, 3000, func(r api.Room, l []truth) bool {
		some := len(kept(l, all(r))) > 0
		if some {
			yes++
		} else {
			no++
		}
		is, e := box.Can(r)
		_, _, f := box.Due(r, -1)
		return is == some && e == api.OK && (f == api.ErrBad) == !some
	})
	if yes < 300 || no < 300 {
		t.Error(yes, no)
	}
}

// P1.2, P1.3, P1.8, N1: spans are just what comes about.
func TestYellowByTruths(t *testing.T) {
	triedTrue(t, 2000, func(r api.Room, l []truth) bool {
		ok := true
		for i, b := range r.Boxes {
			for m := b.Made; m < r.Months; m++ {
				v := values(l, func(x truth) int { return x.points[i][m] })
				s, e := box.Yellow(r, b.Id, m)
				ok = ok && testhelp.Fills(s, v) && e == api.OK
				for n := -1; n <= 6; n++ {
					k, f := box.Known(r, b.Id, m, n)
					ok = ok && k == knownOf(v, n) && f == api.OK
				}
			}
		}
		return ok
	})
}

func knownOf(v []int, least int) uint8 {
	switch {
	case v[0] >= least:
		return api.KnownYes
	case v[len(v)-1] < least:
		return api.KnownNo
	}
	return api.KnownOpen
}

// P1.2, P1.3, P1.8: differences are just what comes about.
func TestDifferByTruths(t *testing.T) {
	triedTrue(t, 2000, func(r api.Room, l []truth) bool {
		ok := true
		for i, a := range r.Boxes {
			for j, b := range r.Boxes {
				for m := max(a.Made, b.Made); m < r.Months && i != j; m++ {
					v := values(l, func(x truth) int { return x.points[i][m] - x.points[j][m] })
					s, e := box.Differ(r, a.Id, b.Id, m)
					k, f := box.Order(r, a.Id, b.Id, m)
					ok = ok && testhelp.Fills(s, v) && e == api.OK && k == knownOf(v, 0) && f == api.OK
				}
			}
		}
		return ok
	})
}

// P1.4: the first month in some truth, and in each one.
func TestSinceByTruths(t *testing.T) {
	triedTrue(t, 1500, func(r api.Room, l []truth) bool {
		ok := true
		for i, b := range r.Boxes {
			for n := -1; n <= 6; n++ {
				perhaps, surely := -1, -1
				for m := r.Months - 1; m >= b.Made; m-- {
					v := values(l, func(x truth) int { return x.points[i][m] })
					if v[len(v)-1] >= n {
						perhaps = m
					}
					if v[0] >= n {
						surely = m
					}
				}
				p, e := box.Perhaps(r, b.Id, n)
				q, f := box.Surely(r, b.Id, n)
				ok = ok && isMonth(p, e, perhaps) && isMonth(q, f, surely)
			}
		}
		return ok
	})
}

// isMonth reports whether a month is what is wanted: below 0 none is.
func isMonth(m int, e api.Errno, want int) bool {
	if want < 0 {
		return m == 0 && e == api.ErrNone
	}
	return m == want && e == api.OK
}

// P1.5, P1.15: what is due, and by nobody before.
func TestDueByTruths(t *testing.T) {
	triedTrue(t, 1500, func(r api.Room, l []truth) bool {
		ok := true
		for n := -1; n <= 5; n++ {
			month, boxes := -1, []int(nil)
			for m := 0; m < r.Months && month < 0; m++ {
				for i, b := range r.Boxes {
					if isThere(b, m) && slices.ContainsFunc(l, func(x truth) bool { return x.points[i][m] > n }) {
						month, boxes = m, append(boxes, b.Id)
					}
				}
			}
			m, k, e := box.Due(r, n)
			ok = ok && isMonth(m, e, month) && slices.Equal(k, boxes)
		}
		return ok
	})
}

// P1.5, P1.14: who is the freshest in some truth.
func TestFreshByTruths(t *testing.T) {
	triedTrue(t, 2000, func(r api.Room, l []truth) bool {
		ok := true
		for m := range r.Months {
			var want []int
			for i, a := range r.Boxes {
				least := func(x truth) bool {
					for j, b := range r.Boxes {
						if isThere(b, m) && x.points[j][m] < x.points[i][m] {
							return false
						}
					}
					return true
				}
				if isThere(a, m) && slices.ContainsFunc(l, least) {
					want = append(want, a.Id)
				}
			}
			k, e := box.Fresh(r, m)
			ok = ok && slices.Equal(k, want) && e == api.OK
		}
		return ok
	})
}

// P1.5, P1.16: the pair of which the least is known.
func TestAskByTruths(t *testing.T) {
	triedTrue(t, 2000, func(r api.Room, l []truth) bool {
		ok := true
		for m := range r.Months {
			a, b, wide := 0, 0, -1
			for i, x := range r.Boxes {
				for j := i + 1; j < len(r.Boxes); j++ {
					if y := r.Boxes[j]; isThere(x, m) && isThere(y, m) {
						v := values(l, func(z truth) int { return z.points[i][m] - z.points[j][m] })
						if n := v[len(v)-1] - v[0]; n > wide {
							a, b, wide = x.Id, y.Id, n
						}
					}
				}
			}
			c, d, n, e := box.Ask(r, m)
			if wide < 0 {
				ok = ok && c == 0 && d == 0 && n == 0 && e == api.ErrNone
			} else {
				ok = ok && c == a && d == b && n == wide && e == api.OK
			}
		}
		return ok
	})
}

// P1.6, P1.12: the fewest matches that prove a span, and those on which it rests.
func TestWhyByTruths(t *testing.T) {
	tried(t, 1500, func(r api.Room, l []truth) bool {
		if len(kept(l, all(r))) == 0 {
			return true
		}
		ok := true
		for i, b := range r.Boxes {
			for m := b.Made; m < r.Months; m++ {
				told := func(matches int) []int {
					return values(kept(l, matches), func(x truth) int { return x.points[i][m] })
				}
				whole := told(all(r))
				var why, rests []int
				for _, x := range testhelp.Sets(len(r.Matches)) {
					if slices.Equal(told(mask(x)), whole) {
						why = testhelp.Chosen(numbers(r), x)
						break
					}
				}
				for k, x := range r.Matches {
					if !slices.Equal(told(all(r)&^(1<<k)), whole) {
						rests = append(rests, x.Number)
					}
				}
				p, e := box.Why(r, b.Id, m)
				q, f := box.Rests(r, b.Id, m)
				ok = ok && slices.Equal(p, why) && e == api.OK && slices.Equal(q, rests) && f == api.OK
			}
		}
		return ok
	})
}

// P1.6, P1.13, N10: the fewest matches without which there is a truth.
func TestWrongByTruths(t *testing.T) {
	counts := map[int]int{}
	tried(t, 3000, func(r api.Room, l []truth) bool {
		for _, x := range testhelp.Sets(len(r.Matches)) {
			if len(x) <= api.MaxFalse && len(kept(l, all(r)&^mask(x))) > 0 {
				counts[len(x)]++
				k, e := box.Wrong(r)
				return slices.Equal(k, testhelp.Chosen(numbers(r), x)) && e == api.OK
			}
		}
		counts[-1]++
		k, e := box.Wrong(r)
		return len(k) == 0 && e == api.ErrMany
	})
	if counts[0] < 30 || counts[1] < 30 || counts[2] < 10 || counts[-1] < 30 {
		t.Error(counts)
	}
}
