package river_test

import (
	"math/rand"
	"slices"
	"testing"

	"middling/api"
	"middling/river"
	"middling/stack"
	"middling/testhelp"
)

// eachTrue runs a test for floods by chance that have truths, as large as they can be.
func eachTrue(t *testing.T, n int, test func(f api.Flood, c *rand.Rand) bool) {
	some := 0
	eachFlood(t, n, large(), func(f api.Flood, c *rand.Rand) bool {
		is, e := river.True(f)
		if !is {
			return e == api.OK
		}
		some++
		return test(f, c)
	})
	if some < n/2 {
		t.Error(some)
	}
}

// ends are the first minutes of all levels, and the last ones.
func ends(f api.Flood) (first, last []int, ok bool) {
	for at := range api.MaxLevels {
		s, e := river.Reaches(f, at+1)
		if e != api.OK {
			return nil, nil, false
		}
		first, last = append(first, s.Lo), append(last, s.Hi)
	}
	return first, last, true
}

// anyTruth returns a truth of a flood by chance, grown from its first one.
func anyTruth(c *rand.Rand, f api.Flood) []int {
	l, _, _ := ends(f)
	for range 60 {
		next := slices.Clone(l)
		next[c.Intn(api.MaxLevels)] += 1 + c.Intn(6)
		if isTruth(f, next) {
			l = next
		}
	}
	return l
}

// anyOrder returns one of a flood by chance.
func anyOrder(c *rand.Rand, f api.Flood) []int {
	w := begin(f)
	var l []int
	for range c.Intn(len(w.levels) + 1) {
		tops := w.tops(l)
		l = append(l, tops[c.Intn(len(tops))])
	}
	return l
}

// above are the bales above one, from the top down.
func above(f api.Flood, bale int) []int {
	l, _ := stack.Above(f.House, bale)
	return l
}

// P10.8, N8: both ends of what is told come about, all together, and nothing beyond them does.
func TestEndsComeAbout(t *testing.T) {
	inside, outside := 0, 0
	eachTrue(t, 300, func(f api.Flood, c *rand.Rand) bool {
		first, last, ok := ends(f)
		if !ok || !isTruth(f, first) || !isTruth(f, last) {
			return false
		}
		if len(f.Reports) == api.MaxReports {
			f.Reports = f.Reports[1:]
			first, last, _ = ends(f)
		}
		for at := range api.MaxLevels {
			for _, x := range []struct {
				minute int
				is     bool
				want   bool
			}{{first[at] - 1, true, false}, {first[at], true, true}, {last[at], false, false}, {last[at] - 1, false, true}} {
				if x.minute < 0 {
					continue
				}
				if is, e := river.True(more(f, at+1, x.minute, x.is)); is != x.want || e != api.OK {
					return false
				}
			}
		}
		for range 20 {
			l := anyTruth(c, f)
			at := c.Intn(api.MaxLevels)
			l[at] += c.Intn(9) - 4
			within := l[at] >= first[at] && l[at] <= last[at]
			if isTruth(f, l) {
				inside++
				if !within {
					return false
				}
			} else if !within {
				outside++
			}
		}
		return true
	})
	if inside < 500 || outside < 300 {
		t.Error(inside, outside)
	}
}

// P10.9, N8: by the order that is told no more is lost than is told, in any truth; at worst by no order less is.
func TestNoOrderLosesLess(t *testing.T) {
	less := 0
	eachTrue(t, 200, func(f api.Flood, c *rand.Rand) bool {
		order, lost, e := river.Order(f)
		s, g := river.Judge(f, order)
		if e != api.OK || g != api.OK || s.Hi != lost {
			return false
		}
		first, _, _ := ends(f)
		w := begin(f)
		if len(w.saved(order, first)) != len(order) {
			return false
		}
		for range 20 {
			l := anyTruth(c, f)
			if n := w.lost(order, l); n > lost || n < s.Lo {
				return false
			}
			x := anyOrder(c, f)
			y, e := river.Judge(f, x)
			if n := w.lost(x, l); y.Hi < lost || n > y.Hi || n < y.Lo || e != api.OK {
				return false
			}
			if y.Lo < y.Hi {
				less++
			}
		}
		return true
	})
	if less < 200 {
		t.Error(less)
	}
}

// P10.10, N8: of what has gone, by no bale more can more be saved than the rest says; by the next one of the order just as much.
func TestRestsProveIt(t *testing.T) {
	steps := 0
	eachTrue(t, 30, func(f api.Flood, _ *rand.Rand) bool {
		w := begin(f)
		first, _, _ := ends(f)
		known := map[[5]int]int{}
		rest := func(gone [5]int) int {
			if _, is := known[gone]; !is {
				known[gone], _ = river.Rest(f, gone[:len(w.piles)])
			}
			return known[gone]
		}
		// step is what is saved by the next load if it takes a bale of a stack, and what has gone then.
		step := func(gone [5]int, at int) (int, int, [5]int) {
			x := w.piles[at]
			high, n := len(x.Bales)-gone[at]-1, 0
			for _, k := range gone {
				n += k
			}
			saved := 0
			if n < len(w.loads) && w.loads[n].Minute < first[x.Row+high-1] {
				saved = penceOf(f, x.Bales[high])
			}
			gone[at]++
			return x.Bales[high], saved, gone
		}
		l := [][5]int{{}}
		for i := 0; i < len(l); i++ {
			for at, x := range w.piles {
				if l[i][at] == len(x.Bales) {
					continue
				}
				_, saved, then := step(l[i], at)
				if saved+rest(then) > rest(l[i]) {
					return false
				}
				if !slices.Contains(l, then) {
					l = append(l, then)
				}
				steps++
			}
		}
		order, lost, _ := river.Order(f)
		var gone [5]int
		if penceOf(f, bales(f)...)-rest(gone) != lost {
			return false
		}
		for _, bale := range order {
			at := slices.IndexFunc(w.piles, func(x api.Stack) bool { return slices.Contains(x.Bales, bale) })
			taken, saved, then := step(gone, at)
			if taken != bale || saved == 0 || saved+rest(then) != rest(gone) {
				return false
			}
			gone = then
		}
		return rest(gone) == 0
	})
	if steps < 1000 {
		t.Error(steps)
	}
}

// P10.11: what can be saved is saved by the order of the bales above it, and it: at worst if it surely can, at best if it can perhaps; no order in which more come before it saves what that one does not.
func TestWhatCanBeSavedIs(t *testing.T) {
	counts := map[uint8]int{}
	eachTrue(t, 200, func(f api.Flood, c *rand.Rand) bool {
		w := begin(f)
		first, last, _ := ends(f)
		x := anyOrder(c, f)
		for _, bale := range bales(f) {
			k, e := river.Can(f, bale)
			counts[k]++
			over := above(f, bale)
			without, g := river.Judge(f, over)
			with, h := river.Judge(f, append(slices.Clone(over), bale))
			pence := penceOf(f, bale)
			if e != api.OK || g != api.OK || h != api.OK || (without.Hi-with.Hi == pence) != (k == api.KnownYes) || (without.Lo-with.Lo == pence) != (k != api.KnownNo) {
				return false
			}
			if at := slices.Index(x, bale); at >= 0 && (w.saves(x, at, first) && k != api.KnownYes || w.saves(x, at, last) && k == api.KnownNo) {
				return false
			}
		}
		return true
	})
	if counts[api.KnownNo] < 100 || counts[api.KnownOpen] < 100 || counts[api.KnownYes] < 100 {
		t.Error(counts)
	}
}

// cans are what is known of each bale.
func cans(f api.Flood) []uint8 {
	var l []uint8
	for _, bale := range bales(f) {
		k, _ := river.Can(f, bale)
		l = append(l, k)
	}
	return l
}

// P10.12: one report more never makes less known, nor more lost at worst.
func TestReportsTellMore(t *testing.T) {
	counts := map[bool]int{}
	closed, saved := 0, 0
	eachTrue(t, 600, func(f api.Flood, c *rand.Rand) bool {
		if len(f.Reports) == api.MaxReports {
			return true
		}
		level := 1 + c.Intn(api.MaxLevels)
		reached, _ := river.Reaches(f, level)
		y, e := river.Put(f, report(9999, level, max(0, reached.Lo-1+c.Intn(reached.Hi-reached.Lo+3)), c.Intn(2) == 0))
		is, g := river.True(y)
		counts[is]++
		if e != api.OK || g != api.OK || !is {
			return e == api.OK && g == api.OK
		}
		for at := range api.MaxLevels {
			before, _ := river.Reaches(f, at+1)
			if s, _ := river.Reaches(y, at+1); s.Lo < before.Lo || s.Hi > before.Hi {
				return false
			}
		}
		were := cans(f)
		for at, k := range cans(y) {
			if k != were[at] && were[at] != api.KnownOpen {
				return false
			}
			if k != were[at] {
				closed++
			}
		}
		_, lost, _ := river.Order(f)
		_, now, e := river.Order(y)
		if now < lost {
			saved++
		}
		return now <= lost && e == api.OK
	})
	if counts[false] < 20 || counts[true] < 100 || closed < 20 || saved < 20 {
		t.Error(counts, closed, saved)
	}
}

// P10.12, P10.5: one gang more saves no less, and by no bale is less known that it can be saved; what it adds is what is lost less.
func TestGangsSaveMore(t *testing.T) {
	counts := map[bool]int{}
	eachTrue(t, 200, func(f api.Flood, c *rand.Rand) bool {
		g := anyGang(c, 5000)
		n, e := river.Adds(f, g)
		counts[n > 0]++
		if n < 0 || e != api.OK {
			return false
		}
		y, e := river.Hire(f, g)
		if len(f.Gangs) == api.MaxGangs {
			return e == api.ErrFull
		}
		were := cans(f)
		for at, k := range cans(y) {
			if k < were[at] {
				return false
			}
		}
		_, lost, _ := river.Order(f)
		_, now, h := river.Order(y)
		return e == api.OK && h == api.OK && lost-now == n
	})
	if counts[false] < 20 || counts[true] < 50 {
		t.Error(counts)
	}
}

// P10.13: what is saved by a later minute is no less; by the last load it is all that can be.
func TestMoreIsSavedLater(t *testing.T) {
	eachTrue(t, 60, func(f api.Flood, _ *rand.Rand) bool {
		_, lost, _ := river.Order(f)
		all := penceOf(f, bales(f)...) - lost
		last, changes := 0, map[int]bool{}
		for minute := range api.MaxMinute + 1 {
			n, e := river.By(f, minute)
			if n < last || e != api.OK {
				return false
			}
			if n > last {
				changes[minute] = true
			}
			last = n
		}
		loads, e := river.Loads(f, api.MaxMinute)
		for minute := range changes {
			if !slices.ContainsFunc(loads, func(x api.Load) bool { return x.Minute == minute }) {
				return false
			}
		}
		if len(loads) > 0 {
			last, _ = river.By(f, loads[len(loads)-1].Minute)
		}
		rest, g := river.Rest(f, make([]int, len(f.House.Stacks)))
		return last == all && rest == all && e == api.OK && g == api.OK
	})
}

// P10.14: the owners' losses are all that is lost, each bale once.
func TestOwnersLoseAll(t *testing.T) {
	some := 0
	eachTrue(t, 200, func(f api.Flood, _ *rand.Rand) bool {
		order, lost, _ := river.Order(f)
		l, e := river.Losses(f)
		last, all := 0, 0
		for _, x := range l {
			held, _ := stack.Held(f.House, x.Owner, api.MaxDays)
			held = slices.DeleteFunc(held, func(bale int) bool { return slices.Contains(order, bale) })
			if x.Owner <= last || x.Pence != penceOf(f, held...) || len(held) == 0 {
				return false
			}
			last, all = x.Owner, all+x.Pence
			some++
		}
		return all == lost && e == api.OK
	})
	if some < 100 {
		t.Error(some)
	}
}

// P10.15, N10: without the reports that are told there is a truth, without fewer, or others before them, there is none.
func TestFewestAreFalse(t *testing.T) {
	counts := map[int]int{}
	s := large()
	s.wide, s.odd = 5, 35
	eachFlood(t, 250, s, func(f api.Flood, _ *rand.Rand) bool {
		so := func(out []int) bool {
			y, e := river.Strike(f, out)
			is, g := river.True(y)
			return is && e == api.OK && g == api.OK
		}
		l, e := river.Wrong(f)
		if e == api.ErrNone {
			counts[-2]++
			return len(l) == 0 && !so(numbers(f))
		}
		want, few := testhelp.Fewest(numbers(f), api.MaxUntrue, so)
		if !few {
			counts[-1]++
			return len(l) == 0 && e == api.ErrMany && so(numbers(f))
		}
		counts[len(l)]++
		return slices.Equal(l, want) && e == api.OK
	})
	if counts[-2] < 5 || counts[-1] < 2 || counts[0] < 20 || counts[1] < 20 || counts[2] < 20 || counts[3] < 5 {
		t.Error(counts)
	}
}

// P10.16: levels that are higher are reached no sooner; of one stack no bale is saved if the one above it is not, by whatever order.
func TestHigherIsNoSooner(t *testing.T) {
	pairs := 0
	eachTrue(t, 200, func(f api.Flood, c *rand.Rand) bool {
		first, last, _ := ends(f)
		if !slices.IsSorted(first) || !slices.IsSorted(last) {
			return false
		}
		w := begin(f)
		for _, x := range w.piles {
			for i := 1; i < len(x.Bales); i++ {
				low, _ := river.Can(f, x.Bales[i-1])
				high, _ := river.Can(f, x.Bales[i])
				n, _ := river.Level(f, x.Bales[i-1])
				m, _ := river.Level(f, x.Bales[i])
				if low > high || m != n+1 {
					return false
				}
				pairs++
			}
		}
		// What each bale of an order loses less is what it is worth, or nothing.
		order := anyOrder(c, f)
		was, _ := river.Judge(f, nil)
		var lost []int
		for at, bale := range order {
			now, e := river.Judge(f, order[:at+1])
			if e != api.OK {
				return false
			}
			if now.Hi == was.Hi {
				lost = append(lost, bale)
			} else if now.Hi != was.Hi-penceOf(f, bale) || slices.ContainsFunc(above(f, bale), func(x int) bool { return slices.Contains(lost, x) }) {
				return false
			}
			was = now
		}
		return true
	})
	if pairs < 300 {
		t.Error(pairs)
	}
}
