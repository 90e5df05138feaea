package stack_test

import (
	"math/rand"
	"slices"
	"testing"

	"middling/api"
	"middling/stack"
	"middling/testhelp"
)

// reached is where bales lie behind a list of moves.
type reached struct {
	yard
	list []api.Move
}

// key is the same for where the same bales lie.
func (x reached) key() [5][3]int {
	var k [5][3]int
	for i, id := range x.ids() {
		copy(k[i][:], x.yard[id])
	}
	return k
}

// onwards returns where bales lie behind one move more, for each one that is allowed, in order.
func onwards(l []reached, allowed func(m api.Move) bool) []reached {
	var next []reached
	for _, x := range l {
		for _, m := range x.next() {
			if allowed(m) {
				next = append(next, reached{x.behind(m), append(slices.Clone(x.list), m)})
			}
		}
	}
	return next
}

// shortest returns the first of the shortest lists of moves that get bales out: false if there is none.
// Lists are grown in order, and of those that come to the same the first one alone is kept.
func shortest(w api.Warehouse, bales []int) ([]api.Move, bool) {
	now := []reached{{on(w, 30), nil}}
	known := map[[5][3]int]bool{now[0].key(): true}
	for len(now) > 0 {
		for _, x := range now {
			if !slices.ContainsFunc(x.bales(), func(bale int) bool { return slices.Contains(bales, bale) }) {
				return x.list, true
			}
		}
		var next []reached
		for _, x := range onwards(now, func(m api.Move) bool { return m.To != 0 || slices.Contains(bales, m.Bale) }) {
			if !known[x.key()] {
				known[x.key()] = true
				next = append(next, x)
			}
		}
		now = next
	}
	return nil, false
}

// unseen returns where bales lie behind the fewest moves that were not written with which all that was seen is so: nothing if these are too many.
func unseen(w api.Warehouse, l []api.Seen) []reached {
	now := []reached{{on(w, 30), nil}}
	for range 3 {
		var so []reached
		for _, x := range now {
			if !slices.ContainsFunc(l, func(s api.Seen) bool { return !x.shows(s) }) {
				so = append(so, x)
			}
		}
		if len(so) > 0 {
			return so
		}
		now = onwards(now, func(api.Move) bool { return true })
	}
	return nil
}

// shows tells whether something that was seen is so.
func (y yard) shows(s api.Seen) bool {
	if s.High > len(y[s.Stack]) {
		return s.Bale == 0
	}
	return y[s.Stack][s.High-1] == s.Bale
}

// P8.2, P8.8, N6: where each bale is on each day, by its moves.
func TestPlacesByWords(t *testing.T) {
	gone, come := 0, 0
	eachHouse(t, 300, small(), func(w api.Warehouse, _ []int, _ *rand.Rand) bool {
		for day := range api.MaxDays + 1 {
			y := on(w, day)
			l, e := stack.At(w, day)
			if len(l) != len(w.Stacks) || e != api.OK {
				return false
			}
			for i, x := range l {
				if x.Id != w.Stacks[i].Id || x.Row != w.Stacks[i].Row || !slices.Equal(x.Bales, y[x.Id]) {
					return false
				}
			}
			for _, bale := range been(w) {
				id, high := y.find(bale)
				s, h, e := stack.Where(w, bale, day)
				if s != id || h != high || e != api.OK {
					return false
				}
				was, _ := first(w).find(bale)
				gone, come = gone+is(was > 0 && id == 0), come+is(was == 0 && id > 0)
			}
			for owner := range 5 {
				l, e := stack.Held(w, owner, day)
				if !slices.Equal(l, heldBy(w, y, owner)) || e != api.OK {
					return false
				}
			}
		}
		return aboveByWords(w, on(w, 30))
	})
	if gone < 1000 || come < 1000 {
		t.Error(gone, come)
	}
}

// heldBy returns the bales of an owner among those that lie somewhere, in increasing order.
func heldBy(w api.Warehouse, y yard, owner int) []int {
	return slices.DeleteFunc(y.bales(), func(bale int) bool { return !slices.Contains(w.Owners, owned(bale, owner)) })
}

// aboveByWords tells whether what is told of bales above others, and of the room, is so.
func aboveByWords(w api.Warehouse, y yard) bool {
	for _, bale := range been(w) {
		id, high := y.find(bale)
		l, e := stack.Above(w, bale)
		if id == 0 {
			if len(l) > 0 || e != api.ErrNone {
				return false
			}
			continue
		}
		want := slices.Clone(y[id][high:])
		slices.Reverse(want)
		if !slices.Equal(l, want) || e != api.OK {
			return false
		}
	}
	n, e := stack.Room(w)
	return n == 3*len(w.Stacks)-len(y.bales()) && e == api.OK
}

// P8.1: a move more can be, or not, by the chapter's words.
func TestMovesByWords(t *testing.T) {
	counts := map[api.Errno]int{}
	eachHouse(t, 500, small(), func(w api.Warehouse, _ []int, r *rand.Rand) bool {
		for range 20 {
			m := move(25+r.Intn(6), 1+r.Intn(w.Owners[len(w.Owners)-1].Bale), r.Intn(8))
			want := api.ErrMove
			if fits(w, m) {
				want = api.OK
			}
			if _, e := stack.Do(w, m); e != want {
				return false
			}
			counts[want]++
		}
		return true
	})
	if counts[api.OK] < 300 || counts[api.ErrMove] < 300 {
		t.Error(counts)
	}
}

// anyBales returns some of the bales that are in the house at last, by chance.
func anyBales(r *rand.Rand, w api.Warehouse) []int {
	n := 1 + r.Intn(3)
	return slices.DeleteFunc(on(w, 30).bales(), func(int) bool { return r.Intn(4) >= n })
}

// P8.3, P8.9, N6: the fewest moves, the first list of these, of all lists there are.
func TestOutByWords(t *testing.T) {
	counts := map[int]int{}
	tight := size{3, 70, 2, 0, 0, 0}
	eachHouse(t, 3000, tight, func(w api.Warehouse, _ []int, r *rand.Rand) bool {
		if len(on(w, 30).bales()) > 6 {
			return true
		}
		bales := anyBales(r, w)
		want, ok := shortest(w, bales)
		l, e := stack.Out(w, bales)
		if !ok {
			counts[-1]++
			return len(l) == 0 && e == api.ErrNone
		}
		counts[len(l)-len(bales)]++
		return slices.Equal(l, want) && e == api.OK
	})
	if counts[-1] < 50 || counts[0] < 50 || counts[1] < 50 || counts[2] < 30 || counts[3] < 10 {
		t.Error(counts)
	}
}

// P8.3, P8.15: the bale that takes the most moves, of all lists there are.
func TestWorstByWords(t *testing.T) {
	counts := map[int]int{}
	eachHouse(t, 150, small(), func(w api.Warehouse, _ []int, _ *rand.Rand) bool {
		bales := on(w, 30).bales()
		if len(bales) > 6 {
			return true
		}
		worst, most := 0, 0
		for _, bale := range bales {
			if l, ok := shortest(w, ints(bale)); ok && len(l) > most {
				worst, most = bale, len(l)
			}
		}
		b, n, e := stack.Worst(w)
		counts[most]++
		if len(bales) == 0 {
			return b == 0 && n == 0 && e == api.ErrNone
		}
		return b == worst && n == most && e == api.OK
	})
	if counts[0] < 1 || counts[1] < 10 || counts[2] < 10 || counts[3] < 10 {
		t.Error(counts)
	}
}

// anySeen returns things by chance that were seen behind so many moves by chance, but for odd ones.
func anySeen(r *rand.Rand, w api.Warehouse, moves int) []api.Seen {
	y := on(w, 30)
	for range moves {
		if next := y.next(); len(next) > 0 {
			y = y.behind(next[r.Intn(len(next))])
		}
	}
	var l []api.Seen
	for range 1 + r.Intn(4) {
		id, high := w.Stacks[r.Intn(len(w.Stacks))].Id, 1+r.Intn(3)
		s := seen(id, high, 0)
		if high <= len(y[id]) {
			s.Bale = y[id][high-1]
		}
		if all := been(w); r.Intn(20) == 0 && len(all) > 0 {
			s.Bale = all[r.Intn(len(all))]
		}
		l = append(l, s)
	}
	return l
}

// P8.4, P8.10: the fewest moves that were not written, and where each bale can be, of all lists of moves.
func TestUnseenByWords(t *testing.T) {
	counts := map[int]int{}
	for _, s := range []size{small(), untrue()} {
		eachHouse(t, 150, s, func(w api.Warehouse, _ []int, r *rand.Rand) bool {
			l := anySeen(r, w, r.Intn(4))
			want := unseen(w, l)
			n, e := stack.Unseen(w, l)
			if len(want) == 0 {
				counts[-1]++
				return n == 0 && e == api.ErrMany
			}
			counts[n]++
			for _, bale := range been(w) {
				var ids []int
				for _, x := range want {
					id, _ := x.find(bale)
					ids = append(ids, id)
				}
				may, f := stack.May(w, l, bale)
				if !slices.Equal(may, testhelp.Sorted(ids)) || f != api.OK {
					return false
				}
			}
			return n == len(want[0].list) && e == api.OK
		})
	}
	if counts[-1] < 10 || counts[0] < 30 || counts[1] < 30 || counts[2] < 20 {
		t.Error(counts)
	}
}

// truths returns the stacks over which there are leaks, in all truths.
func truths(w api.Warehouse) [][]int {
	var l [][]int
	ids := first(w).ids()
	for _, x := range testhelp.Sets(len(ids)) {
		leaks := testhelp.Chosen(ids, x)
		if !slices.ContainsFunc(w.Found, func(f api.Found) bool { return wetIn(w, leaks, f.Bale) != f.Wet }) {
			l = append(l, leaks)
		}
	}
	return l
}

// counted returns in how many truths something is so.
func counted(truths [][]int, so func(leaks []int) bool) int {
	n := 0
	for _, leaks := range truths {
		n += is(so(leaks))
	}
	return n
}

// tried runs a test for warehouses by chance that are small, or of which much that was found is false.
func tried(t *testing.T, n int, test func(w api.Warehouse, truths [][]int) bool) {
	for _, s := range []size{small(), untrue()} {
		eachHouse(t, n, s, func(w api.Warehouse, _ []int, _ *rand.Rand) bool { return test(w, truths(w)) })
	}
}

// P8.5, P8.11, P8.16: what leaks, and what is wet, in all truths.
func TestWetByWords(t *testing.T) {
	counts, bales := map[uint8]int{}, map[uint8]int{}
	none := 0
	tried(t, 300, func(w api.Warehouse, truths [][]int) bool {
		can, e := stack.Can(w)
		leaks, f := stack.Leaks(w)
		if can != (len(truths) > 0) || e != api.OK || (f == api.ErrBad) == can {
			return false
		}
		if !can {
			none++
			return len(leaks) == 0
		}
		for i, id := range first(w).ids() {
			counts[leaks[i]]++
			if leaks[i] != testhelp.KnownBy(counted(truths, func(leaks []int) bool { return slices.Contains(leaks, id) }), len(truths)) {
				return false
			}
		}
		for _, bale := range been(w) {
			k, e := stack.Wet(w, bale)
			bales[k]++
			if k != testhelp.KnownBy(counted(truths, func(leaks []int) bool { return wetIn(w, leaks, bale) }), len(truths)) || e != api.OK {
				return false
			}
		}
		return len(leaks) == len(w.Stacks)
	})
	for _, c := range []map[uint8]int{counts, bales} {
		if c[api.KnownNo] < 100 || c[api.KnownOpen] < 100 || c[api.KnownYes] < 50 || none < 30 {
			t.Error(c, none)
		}
	}
}

// P8.5, P8.14: the bale that tells most, of all truths.
func TestLookByWords(t *testing.T) {
	counts := map[int]int{}
	tried(t, 300, func(w api.Warehouse, truths [][]int) bool {
		best, fewest := 0, len(truths)
		for _, bale := range been(w) {
			n := counted(truths, func(leaks []int) bool { return wetIn(w, leaks, bale) })
			if worst := max(n, len(truths)-n); worst < fewest {
				best, fewest = bale, worst
			}
		}
		b, n, e := stack.Look(w)
		counts[n]++
		switch {
		case len(truths) == 0:
			return b == 0 && n == 0 && e == api.ErrBad
		case best == 0:
			return b == 0 && n == 0 && e == api.ErrNone
		}
		return b == best && n == fewest && e == api.OK
	})
	if counts[0] < 100 || counts[1] < 30 || counts[2] < 30 || counts[4] < 5 {
		t.Error(counts)
	}
}

// P8.6, P8.13, N10: the fewest things that must be false, of all sets of them.
func TestWrongByWords(t *testing.T) {
	counts := map[int]int{}
	tried(t, 300, func(w api.Warehouse, _ [][]int) bool {
		want, few := testhelp.Fewest(numbers(w), api.MaxStruck, func(out []int) bool { return len(truths(without(w, out))) > 0 })
		l, e := stack.Wrong(w)
		if !few {
			counts[-1]++
			return len(l) == 0 && e == api.ErrMany
		}
		counts[len(l)]++
		return slices.Equal(l, want) && e == api.OK
	})
	if counts[-1] < 3 || counts[0] < 100 || counts[1] < 50 || counts[2] < 10 || counts[3] < 3 {
		t.Error(counts)
	}
}
