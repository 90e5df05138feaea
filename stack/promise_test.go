package stack_test

import (
	"math"
	"math/rand"
	"slices"
	"testing"

	"middling/api"
	"middling/stack"
	"middling/testhelp"
)

// P8.8, N6: each bale is in one place, or out; those that are there, and those that went out, are those that were there, and came in.
func TestEachBaleIsInOnePlace(t *testing.T) {
	eachHouse(t, 100, large(), func(w api.Warehouse, _ []int, _ *rand.Rand) bool {
		for day := range api.MaxDays + 1 {
			l, e := stack.At(w, day)
			if e != api.OK {
				return false
			}
			times := map[int]int{}
			for _, x := range l {
				for i, bale := range x.Bales {
					times[bale]++
					if s, h, e := stack.Where(w, bale, day); s != x.Id || h != i+1 || e != api.OK {
						return false
					}
				}
			}
			in, out := first(w).bales(), 0
			for _, m := range w.Moves {
				if m.Day <= day && !slices.Contains(in, m.Bale) {
					in = append(in, m.Bale)
				}
				out += is(m.Day <= day && m.To == 0)
			}
			for _, bale := range in {
				if s, h, e := stack.Where(w, bale, day); times[bale] > 1 || (s == 0) != (times[bale] == 0) || (h == 0) != (s == 0) || e != api.OK {
					return false
				}
			}
			if len(times) != len(in)-out {
				return false
			}
		}
		return true
	})
}

// P8.8: behind one move more all bales but one are where they were, and this one is where it was put.
func TestMoveMovesOneBale(t *testing.T) {
	eachHouse(t, 100, large(), func(w api.Warehouse, _ []int, _ *rand.Rand) bool {
		// A bale may have been found that came in by the last move.
		w.Moves, w.Found = w.Moves[:min(len(w.Moves), 9)], nil
		for _, m := range on(w, 30).next() {
			m.Day = 30
			y, e := stack.Do(w, m)
			if e != api.OK {
				return false
			}
			for _, bale := range been(w) {
				s, h, _ := stack.Where(w, bale, 30)
				t, i, e := stack.Where(y, bale, 30)
				if e != api.OK || bale != m.Bale && (s != t || h != i) || bale == m.Bale && t != m.To {
					return false
				}
			}
			if a, _ := stack.Above(y, m.Bale); len(a) > 0 {
				return false
			}
		}
		return true
	})
}

// lying returns a warehouse whose stacks are as they lie, behind no moves.
func lying(w api.Warehouse, y yard) api.Warehouse {
	w = copied(w)
	for at, x := range w.Stacks {
		w.Stacks[at].Bales = y[x.Id]
	}
	w.Moves, w.Found = nil, nil
	return w
}

// inTheWay returns how many bales lie above some others that are to be got out.
func inTheWay(y yard, bales []int) int {
	n := 0
	for _, l := range y {
		lowest := slices.IndexFunc(l, func(bale int) bool { return slices.Contains(bales, bale) })
		for i, bale := range l {
			n += is(lowest >= 0 && i > lowest && !slices.Contains(bales, bale))
		}
	}
	return n
}

// leftOf returns the bales that are still there.
func leftOf(y yard, bales []int) []int {
	return slices.DeleteFunc(slices.Clone(bales), func(bale int) bool { return !slices.Contains(y.bales(), bale) })
}

// P8.9, N6: by the moves that are told all bales are out, and no other one; no move that can be saves more than itself, and none before the next one of the list as much.
func TestNoFewerMovesGetOut(t *testing.T) {
	counts := map[api.Errno]int{}
	eachHouse(t, 40, large(), func(w api.Warehouse, _ []int, r *rand.Rand) bool {
		bales := anyBales(r, w)
		list, e := stack.Out(w, bales)
		counts[e]++
		if e != api.OK {
			return e == api.ErrNone && len(list) == 0
		}
		y := on(w, 30)
		for i, m := range list {
			before := true
			for _, x := range y.next() {
				if x.To == 0 && !slices.Contains(bales, x.Bale) {
					continue
				}
				z := y.behind(x)
				l, e := stack.Out(lying(w, z), leftOf(z, bales))
				if x == m {
					before = false
					if e != api.OK || !slices.Equal(l, list[i+1:]) {
						return false
					}
				}
				least := len(list) - i - 1 + is(before)
				if e == api.OK && len(l) < least {
					return false
				}
			}
			if before {
				return false
			}
			y = y.behind(m)
		}
		return len(leftOf(y, bales)) == 0 && len(y.bales()) == len(on(w, 30).bales())-len(bales)
	})
	if counts[api.OK] < 20 {
		t.Error(counts)
	}
}

// P8.15: each bale takes one move at least, and each other one above some of them one more; if there are none it takes no more; none alone takes more than the worst.
func TestMovesAreEnough(t *testing.T) {
	counts := map[int]int{}
	eachHouse(t, 200, large(), func(w api.Warehouse, _ []int, r *rand.Rand) bool {
		y := on(w, 30)
		bales := anyBales(r, w)
		more := inTheWay(y, bales)
		l, e := stack.Out(w, bales)
		counts[min(more, 2)]++
		if e == api.OK && len(l) < len(bales)+more || more == 0 && (e != api.OK || len(l) != len(bales)) {
			return false
		}
		worst, most, f := stack.Worst(w)
		if len(y.bales()) == 0 {
			return f == api.ErrNone
		}
		for _, bale := range y.bales() {
			l, e := stack.Out(w, ints(bale))
			if e == api.OK && (len(l) > most || len(l) == most && bale < worst) || bale == worst && len(l) != most {
				return false
			}
		}
		return f == api.OK && most > 0
	})
	if counts[0] < 20 || counts[1] < 20 || counts[2] < 20 {
		t.Error(counts)
	}
}

// P8.9: whether bales can be got out, and by how many moves, of warehouses that are so full that this is in doubt.
func TestOutOfFullHouses(t *testing.T) {
	counts := map[api.Errno]int{}
	r := rand.New(rand.NewSource(9))
	for range 150 {
		w := store(nil, nil, nil, nil, nil)
		free := r.Intn(4)
		for _, bale := range r.Perm(15)[:15-free] {
			at := r.Intn(5)
			for len(w.Stacks[at].Bales) == 3 {
				at = (at + 1) % 5
			}
			w.Stacks[at].Bales = append(w.Stacks[at].Bales, bale+1)
		}
		y := first(w)
		bales := anyBales(r, w)
		l, e := stack.Out(w, bales)
		counts[e]++
		more := inTheWay(y, bales)
		// Where nothing is in the way there is a list; where there is no room, and something is in the way of all, there is none.
		if more == 0 && e != api.OK || free == 0 && !slices.ContainsFunc(y.next(), func(m api.Move) bool { return slices.Contains(bales, m.Bale) }) && (e == api.OK) != (len(bales) == 0) {
			t.Fatal(w, bales, l, e)
		}
		for _, m := range l {
			if !y.allows(m, been(w)) {
				t.Fatal(w, bales, l, m)
			}
			y = y.behind(m)
		}
		if e == api.OK && len(leftOf(y, bales)) > 0 {
			t.Fatal(w, bales, l)
		}
	}
	if counts[api.OK] < 50 || counts[api.ErrNone] < 5 {
		t.Error(counts)
	}
}

// P8.4, P8.10: whatever moves were not written, as few as can be, a bale is where it may be; something more that is seen needs no fewer.
func TestWhereABaleMayBe(t *testing.T) {
	counts := map[int]int{}
	eachHouse(t, 400, large(), func(w api.Warehouse, _ []int, r *rand.Rand) bool {
		moves := r.Intn(3)
		y := on(w, 30)
		for range moves {
			if next := y.next(); len(next) > 0 {
				y = y.behind(next[r.Intn(len(next))])
			}
		}
		var l []api.Seen
		least := 0
		for _, x := range w.Stacks {
			high := 1 + r.Intn(3)
			s := seen(x.Id, high, 0)
			if high <= len(y[x.Id]) {
				s.Bale = y[x.Id][high-1]
			}
			l = append(l, s)
			n, e := stack.Unseen(w, l)
			if e != api.OK || n < least || n > moves {
				return false
			}
			least = n
		}
		counts[least]++
		for _, bale := range been(w) {
			may, e := stack.May(w, l, bale)
			id, _ := y.find(bale)
			if e != api.OK || len(may) == 0 || !slices.IsSorted(may) || least == moves && !slices.Contains(may, id) {
				return false
			}
		}
		return true
	})
	if counts[0] < 30 || counts[1] < 30 || counts[2] < 20 {
		t.Error(counts)
	}
}

// isSo reports whether what is known allows what is so in a truth.
func isSo(k uint8, so bool) bool {
	return k == api.KnownOpen || (k == api.KnownYes) == so
}

// P8.11, P8.16, N6: what is told of leaks and of bales holds of a truth that is known.
func TestTruthIsWithin(t *testing.T) {
	eachHouse(t, 200, large(), func(w api.Warehouse, leaks []int, _ *rand.Rand) bool {
		l, e := stack.Leaks(w)
		if len(l) != len(w.Stacks) || e != api.OK {
			return false
		}
		for i, x := range w.Stacks {
			if !isSo(l[i], slices.Contains(leaks, x.Id)) {
				return false
			}
		}
		for _, bale := range been(w) {
			if k, e := stack.Wet(w, bale); !isSo(k, wetIn(w, leaks, bale)) || e != api.OK {
				return false
			}
		}
		return true
	})
}

// P8.11: what is open comes about both ways; of a bale it does if it is found so.
func TestOpenComesAbout(t *testing.T) {
	open, sure := 0, 0
	eachHouse(t, 200, large(), func(w api.Warehouse, _ []int, _ *rand.Rand) bool {
		w.Found = w.Found[:min(len(w.Found), 7)]
		for _, bale := range been(w) {
			k, _ := stack.Wet(w, bale)
			wet, e := stack.Can(more(w, bale, true))
			dry, f := stack.Can(more(w, bale, false))
			open, sure = open+is(wet && dry), sure+is(wet != dry)
			if e != api.OK || f != api.OK || wet != (k != api.KnownNo) || dry != (k != api.KnownYes) {
				return false
			}
		}
		l, _ := stack.Leaks(w)
		all := truths(w)
		for i, x := range w.Stacks {
			if l[i] != testhelp.KnownBy(counted(all, func(leaks []int) bool { return slices.Contains(leaks, x.Id) }), len(all)) {
				return false
			}
		}
		return true
	})
	if open < 300 || sure < 300 {
		t.Error(open, sure)
	}
}

// P8.12: one thing found more, that can be true, never makes less known; what was found is known.
func TestMoreIsKnown(t *testing.T) {
	surer := 0
	eachHouse(t, 100, large(), func(w api.Warehouse, leaks []int, _ *rand.Rand) bool {
		for _, x := range w.Found {
			if k, e := stack.Wet(w, x.Bale); k != api.KnownYes*uint8(is(x.Wet)) || e != api.OK {
				return false
			}
		}
		w.Found = w.Found[:min(len(w.Found), 7)]
		before := knowns(w)
		for _, bale := range been(w) {
			y, e := stack.Find(w, found(9999, bale, wetIn(w, leaks, bale)))
			if e != api.OK {
				return false
			}
			for i, k := range knowns(y) {
				if before[i] != api.KnownOpen && k != before[i] {
					return false
				}
				surer += is(k != before[i])
			}
		}
		return true
	})
	if surer < 300 {
		t.Error(surer)
	}
}

// knowns returns all that is known of a warehouse, or open.
func knowns(w api.Warehouse) []uint8 {
	l, _ := stack.Leaks(w)
	for _, bale := range been(w) {
		k, _ := stack.Wet(w, bale)
		l = append(l, k)
	}
	return l
}

// P8.6, P8.13, N10: without what is told there is a truth, without fewer, or others before them, there is none.
func TestFewestAreFalse(t *testing.T) {
	counts := map[api.Errno]int{}
	s := large()
	s.odd = 30
	eachHouse(t, 300, s, func(w api.Warehouse, _ []int, _ *rand.Rand) bool {
		can := func(out []int) bool {
			is, e := stack.Can(without(w, out))
			return is && e == api.OK
		}
		want, few := testhelp.Fewest(numbers(w), api.MaxStruck, can)
		l, e := stack.Wrong(w)
		counts[e]++
		if !few {
			return len(l) == 0 && e == api.ErrMany
		}
		y, f := stack.Strike(w, l)
		is, g := stack.Can(y)
		return slices.Equal(l, want) && e == api.OK && f == api.OK && is && g == api.OK
	})
	if counts[api.OK] < 100 || counts[api.ErrMany] < 3 {
		t.Error(counts)
	}
}

// P8.5, P8.14: what is told by a look leaves at worst as many truths as is told, any other bale that is open as many or more.
func TestLookTellsMost(t *testing.T) {
	counts := map[api.Errno]int{}
	eachHouse(t, 200, large(), func(w api.Warehouse, _ []int, _ *rand.Rand) bool {
		w.Found = w.Found[:min(len(w.Found), 4)]
		look, left, e := stack.Look(w)
		counts[e]++
		for _, bale := range been(w) {
			k, _ := stack.Wet(w, bale)
			if k != api.KnownOpen {
				if bale == look {
					return false
				}
				continue
			}
			worst := max(len(truths(more(w, bale, true))), len(truths(more(w, bale, false))))
			if e != api.OK || worst < left || worst == left && bale < look || bale == look && worst != left {
				return false
			}
		}
		return e == api.OK || e == api.ErrNone && look == 0 && left == 0
	})
	if counts[api.OK] < 100 || counts[api.ErrNone] < 5 {
		t.Error(counts)
	}
}

// P8.16: a bale that was never on top in the rain is dry, one that was on top of a stack that leaks is wet.
func TestRainWets(t *testing.T) {
	dry, wet := 0, 0
	eachHouse(t, 200, large(), func(w api.Warehouse, _ []int, _ *rand.Rand) bool {
		l, _ := stack.Leaks(w)
		under := map[int][]uint8{}
		for _, day := range w.Rain {
			at, _ := stack.At(w, day)
			for i, x := range at {
				if n := len(x.Bales); n > 0 {
					under[x.Bales[n-1]] = append(under[x.Bales[n-1]], l[i])
				}
			}
		}
		for _, bale := range been(w) {
			k, e := stack.Wet(w, bale)
			never, leaks := len(under[bale]) == 0, slices.Contains(under[bale], api.KnownYes)
			dry, wet = dry+is(never), wet+is(leaks)
			if e != api.OK || never && k != api.KnownNo || leaks && k != api.KnownYes {
				return false
			}
		}
		return true
	})
	if dry < 300 || wet < 100 {
		t.Error(dry, wet)
	}
}

// P8.7: what is struck, and found again, is as before.
func TestStruckAndFound(t *testing.T) {
	eachHouse(t, 100, large(), func(w api.Warehouse, _ []int, _ *rand.Rand) bool {
		for _, x := range w.Found {
			fewer, e := stack.Strike(w, ints(x.Number))
			again, f := stack.Find(fewer, x)
			if e != api.OK || f != api.OK || !same(again, w) || len(fewer.Found) != len(w.Found)-1 {
				return false
			}
		}
		return true
	})
}

// P1, R5, R7: each call ends with an answer, whatever its arguments are.
func TestAnyValue(t *testing.T) {
	odd := ints(math.MinInt, math.MinInt+1, -10000, -1, 0, 1, 2, 3, 4, 5, 6, 11, 12, 13, 22, 30, 31, 41, 9999, 10000, math.MaxInt-1, math.MaxInt)
	r := rand.New(rand.NewSource(8))
	some := func() int { return odd[r.Intn(len(odd))] }
	for range 3000 {
		w := example()
		switch r.Intn(6) {
		case 0:
			w = api.Warehouse{Stacks: []api.Stack{pile(some(), some(), some(), some())}, Owners: []api.Owned{owned(some(), some())}}
		case 1:
			w.Stacks[r.Intn(3)] = pile(some(), some(), some(), some())
		case 2:
			w.Stacks[r.Intn(3)].Bales = slices.Repeat(ints(some(), 0), r.Intn(5))
		case 3:
			w.Owners[r.Intn(7)] = owned(some(), some())
		case 4:
			w.Rain = ints(some(), some())
		}
		for range r.Intn(3) {
			w.Moves = append(w.Moves, move(some(), some(), some()))
		}
		for range r.Intn(3) {
			w.Found = append(w.Found, found(some(), some(), r.Intn(2) == 0))
		}
		x := asks{some(), some(), some(), ints(some(), some()), []api.Seen{seen(some(), some(), some()), seen(1, 2, some())}, move(some(), some(), some()), found(some(), some(), true), slices.Repeat(ints(some(), some()), r.Intn(4))}
		for _, f := range calls() {
			if is, e := f.do(w, x); e != api.OK && !is {
				t.Fatal(f.name, w, x, e)
			}
		}
	}
}
