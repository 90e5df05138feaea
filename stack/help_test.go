package stack_test

import (
	"math/rand"
	"slices"
	"testing"

	"middling/api"
	"middling/stack"
)

func ints(l ...int) []int { return l }

func move(day, bale, to int) api.Move { return api.Move{Day: day, Bale: bale, To: to} }

func found(number, bale int, wet bool) api.Found {
	return api.Found{Number: number, Bale: bale, Wet: wet}
}

func seen(stack, high, bale int) api.Seen { return api.Seen{Stack: stack, High: high, Bale: bale} }

func owned(bale, owner int) api.Owned { return api.Owned{Bale: bale, Owner: owner} }

func pile(id, row int, bales ...int) api.Stack { return api.Stack{Id: id, Row: row, Bales: bales} }

// example is the warehouse of the chapter's examples, but for some things.
func example(change ...func(w *api.Warehouse)) api.Warehouse {
	w := api.Warehouse{
		Stacks: []api.Stack{pile(1, 1, 11, 12, 13), pile(2, 1, 21, 22), pile(3, 2, 31)},
		Owners: []api.Owned{owned(11, 1), owned(12, 1), owned(13, 2), owned(21, 2), owned(22, 2), owned(31, 1), owned(41, 2)},
		Moves:  []api.Move{move(2, 13, 3), move(4, 22, 0), move(5, 41, 2)},
		Rain:   ints(1, 3, 6),
		Found:  []api.Found{found(1, 13, true), found(2, 12, false)},
	}
	for _, f := range change {
		f(&w)
	}
	return w
}

// told is the warehouse of the examples with other things that were found.
func told(l ...api.Found) api.Warehouse {
	return example(func(w *api.Warehouse) { w.Found = l })
}

// odd has no truth: 12 was found dry, and wet.
func odd() api.Warehouse { return told(found(1, 13, true), found(2, 12, false), found(3, 12, true)) }

// many has no truth as long as one of four things is there that were found: these bales were never on top in the rain.
func many() api.Warehouse {
	return told(found(1, 11, true), found(2, 21, true), found(3, 11, true), found(4, 21, true))
}

// broken is not valid: 12 is not on top.
func broken() api.Warehouse { return example(func(w *api.Warehouse) { w.Moves[0].Bale = 12 }) }

// store has stacks with some bales, the bales 1 to 20, all of the owner 1, and nothing else.
func store(piles ...[]int) api.Warehouse {
	var w api.Warehouse
	for i, l := range piles {
		w.Stacks = append(w.Stacks, pile(i+1, 1, l...))
	}
	for bale := range 20 {
		w.Owners = append(w.Owners, owned(bale+1, 1))
	}
	return w
}

// full has as many of all as there can be.
func full() api.Warehouse {
	w := store(ints(1, 2, 3), ints(4, 5, 6), ints(7, 8, 9), ints(10, 11, 12), ints(13, 14, 15))
	w.Moves = []api.Move{move(1, 3, 0), move(1, 16, 1), move(3, 6, 0), move(4, 9, 2), move(9, 17, 3), move(30, 12, 0), move(30, 15, 4), move(30, 18, 5), move(30, 18, 0), move(30, 19, 5)}
	for day := range api.MaxDays {
		w.Rain = append(w.Rain, day+1)
	}
	for i, bale := range ints(1, 2, 3, 4, 6, 16, 18) {
		w.Found = append(w.Found, found(10*i+1, bale, bale == 16))
	}
	w.Found = append(w.Found, found(9999, 5, false))
	return w
}

func same(a, b api.Warehouse) bool {
	return sameStacks(a.Stacks, b.Stacks) && slices.Equal(a.Owners, b.Owners) && slices.Equal(a.Moves, b.Moves) && slices.Equal(a.Rain, b.Rain) && slices.Equal(a.Found, b.Found)
}

func sameStacks(a, b []api.Stack) bool {
	return slices.EqualFunc(a, b, func(x, y api.Stack) bool { return x.Id == y.Id && x.Row == y.Row && slices.Equal(x.Bales, y.Bales) })
}

func copied(w api.Warehouse) api.Warehouse {
	w.Stacks = copiedStacks(w.Stacks)
	w.Owners, w.Moves, w.Rain, w.Found = slices.Clone(w.Owners), slices.Clone(w.Moves), slices.Clone(w.Rain), slices.Clone(w.Found)
	return w
}

func copiedStacks(l []api.Stack) []api.Stack {
	l = slices.Clone(l)
	for at := range l {
		l[at].Bales = slices.Clone(l[at].Bales)
	}
	return l
}

// numbers returns those of what was found.
func numbers(w api.Warehouse) []int {
	var l []int
	for _, x := range w.Found {
		l = append(l, x.Number)
	}
	return l
}

// without returns the warehouse without some things that were found.
func without(w api.Warehouse, out []int) api.Warehouse {
	w.Found = slices.DeleteFunc(slices.Clone(w.Found), func(x api.Found) bool { return slices.Contains(out, x.Number) })
	return w
}

// more returns the warehouse with something found more, behind all others.
func more(w api.Warehouse, bale int, wet bool) api.Warehouse {
	w.Found = append(slices.Clone(w.Found), found(9999, bale, wet))
	return w
}

// yard is where bales lie: those of each stack, from the floor up, by its Id.
type yard map[int][]int

func (y yard) copied() yard {
	z := yard{}
	for id, l := range y {
		z[id] = slices.Clone(l)
	}
	return z
}

// find returns the stack of a bale, and its height: 0 and 0 if it is in none.
func (y yard) find(bale int) (int, int) {
	for id, l := range y {
		if at := slices.Index(l, bale); at >= 0 {
			return id, at + 1
		}
	}
	return 0, 0
}

// ids returns those of the stacks, in increasing order.
func (y yard) ids() []int {
	var l []int
	for id := range y {
		l = append(l, id)
	}
	slices.Sort(l)
	return l
}

// bales returns those that are there, in increasing order.
func (y yard) bales() []int {
	var all []int
	for _, l := range y {
		all = append(all, l...)
	}
	slices.Sort(all)
	return all
}

// tops returns the bales on top, by their stacks.
func (y yard) tops() map[int]int {
	tops := map[int]int{}
	for id, l := range y {
		if len(l) > 0 {
			tops[id] = l[len(l)-1]
		}
	}
	return tops
}

// allows tells whether a move can be, of bales of which some have been in the house.
func (y yard) allows(m api.Move, been []int) bool {
	l, is := y[m.To]
	if m.To != 0 && (!is || len(l) > 2) {
		return false
	}
	from, _ := y.find(m.Bale)
	if from == 0 {
		return m.To != 0 && !slices.Contains(been, m.Bale)
	}
	return y.tops()[from] == m.Bale && from != m.To
}

// behind returns where bales lie behind a move.
func (y yard) behind(m api.Move) yard {
	z := yard{}
	for id, l := range y {
		z[id] = slices.DeleteFunc(slices.Clone(l), func(bale int) bool { return bale == m.Bale })
		if id == m.To {
			z[id] = append(z[id], m.Bale)
		}
	}
	return z
}

// first is where bales lie before all moves.
func first(w api.Warehouse) yard {
	y := yard{}
	for _, x := range w.Stacks {
		y[x.Id] = slices.Clone(x.Bales)
	}
	return y
}

// on is where bales lie on a day.
func on(w api.Warehouse, day int) yard {
	y := first(w)
	for _, m := range w.Moves {
		if m.Day <= day {
			y = y.behind(m)
		}
	}
	return y
}

// been returns the bales that have been in the house, in increasing order.
func been(w api.Warehouse) []int {
	l := first(w).bales()
	for _, m := range w.Moves {
		l = append(l, m.Bale)
	}
	slices.Sort(l)
	return slices.Compact(l)
}

// next returns the moves of bales on top that can be, in the order of both stacks, out first.
func (y yard) next() []api.Move {
	var l []api.Move
	tops := y.tops()
	for _, from := range y.ids() {
		bale, is := tops[from]
		if !is {
			continue
		}
		l = append(l, move(0, bale, 0))
		for _, to := range y.ids() {
			if to != from && len(y[to]) < 3 {
				l = append(l, move(0, bale, to))
			}
		}
	}
	return l
}

// size is how large warehouses by chance may be, how many of a hundred places have a bale at first, and how many of a hundred things that were found are false.
type size struct{ stacks, filled, moves, rain, found, odd int }

func small() size { return size{3, 50, 4, 4, 4, 10} }

func large() size {
	return size{api.MaxStacks, 70, api.MaxMoves, api.MaxDays, api.MaxFound, 0}
}

// untrue ones have many things that were found, of which many are false.
func untrue() size { return size{api.MaxStacks, 40, 6, 6, api.MaxFound, 30} }

// rising returns so many numbers by chance, in increasing order, each at most so much above the one before it.
func rising(r *rand.Rand, n, step int) []int {
	var l []int
	last := 0
	for range n {
		last += 1 + r.Intn(step)
		l = append(l, last)
	}
	return l
}

// filled returns stacks by chance.
func filled(r *rand.Rand, s size, ids []int) []api.Stack {
	var l []api.Stack
	at := 0
	for _, id := range rising(r, 1+r.Intn(s.stacks), 3) {
		x := pile(id, 1+r.Intn(api.MaxRows))
		for len(x.Bales) < api.MaxHigh && r.Intn(100) < s.filled {
			x.Bales = append(x.Bales, ids[at])
			at++
		}
		l = append(l, x)
	}
	return l
}

// moved returns a move by chance that can be: of a bale on top, or one that comes in; false if there is none.
func moved(r *rand.Rand, y yard, been, ids []int) (api.Move, bool) {
	var l []api.Move
	for _, m := range y.next() {
		// Bales go out more seldom.
		if m.To != 0 || r.Intn(2) == 0 {
			l = append(l, m)
		}
	}
	for _, to := range y.ids() {
		for _, bale := range ids {
			if m := move(0, bale, to); r.Intn(len(ids)) < 2 && !slices.Contains(been, bale) && y.allows(m, been) {
				l = append(l, m)
			}
		}
	}
	if len(l) == 0 {
		return api.Move{}, false
	}
	return l[r.Intn(len(l))], true
}

// anyHouse returns a valid warehouse by chance, and the stacks over which there are leaks in a truth from which comes what was found, but for odd things.
func anyHouse(r *rand.Rand, s size) (api.Warehouse, []int) {
	ids := rising(r, 3*s.stacks+6, 4)
	var w api.Warehouse
	for _, bale := range ids {
		w.Owners = append(w.Owners, owned(bale, 1+r.Intn(3)))
	}
	r.Shuffle(len(ids), func(i, j int) { ids[i], ids[j] = ids[j], ids[i] })
	w.Stacks = filled(r, s, ids)
	w.Moves = anyMoves(r, s, w, ids)
	for day := 1; day <= api.MaxDays; day++ {
		if r.Intn(api.MaxDays) < s.rain && r.Intn(3) > 0 {
			w.Rain = append(w.Rain, day)
		}
	}
	var leaks []int
	for _, x := range w.Stacks {
		if r.Intn(2) == 0 {
			leaks = append(leaks, x.Id)
		}
	}
	w.Found = anyFound(r, s, w, leaks)
	return w, leaks
}

// anyMoves returns moves by chance, one after the other.
func anyMoves(r *rand.Rand, s size, w api.Warehouse, ids []int) []api.Move {
	y := first(w)
	for _, day := range rising(r, r.Intn(s.moves+1), 3) {
		m, ok := moved(r, y, been(w), ids)
		if !ok {
			break
		}
		m.Day = max(1, day-r.Intn(2))
		w.Moves, y = append(w.Moves, m), y.behind(m)
	}
	return w.Moves
}

// anyFound returns things by chance that were found if there are leaks over some stacks, but for odd ones.
func anyFound(r *rand.Rand, s size, w api.Warehouse, leaks []int) []api.Found {
	var l []api.Found
	bales := been(w)
	if len(bales) == 0 {
		return nil
	}
	for _, number := range rising(r, r.Intn(s.found+1), 3) {
		bale := bales[r.Intn(len(bales))]
		l = append(l, found(number, bale, wetIn(w, leaks, bale) != (r.Intn(100) < s.odd)))
	}
	return l
}

// wetIn tells whether a bale became wet, if there are leaks over some stacks.
func wetIn(w api.Warehouse, leaks []int, bale int) bool {
	return slices.ContainsFunc(w.Rain, func(day int) bool {
		tops := on(w, day).tops()
		return slices.ContainsFunc(leaks, func(id int) bool { return tops[id] == bale })
	})
}

// eachHouse runs a test for some warehouses by chance.
func eachHouse(t *testing.T, n int, s size, test func(w api.Warehouse, leaks []int, r *rand.Rand) bool) {
	r := rand.New(rand.NewSource(8))
	for range n {
		w, leaks := anyHouse(r, s)
		if e := stack.Check(w); e != api.OK {
			t.Fatal(w, e)
		}
		if !test(w, leaks, r) {
			t.Fatal(w)
		}
	}
}

// is counts what is so as 1.
func is(so bool) int {
	if so {
		return 1
	}
	return 0
}
