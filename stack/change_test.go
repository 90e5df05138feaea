package stack_test

import (
	"math"
	"slices"
	"testing"

	"middling/api"
	"middling/stack"
	"middling/testhelp"
)

// roomier is full without the last move, and without the sixth thing that was found, 51.
func roomier() api.Warehouse {
	w := full()
	w.Moves = w.Moves[:9]
	w.Found = slices.Delete(w.Found, 5, 6)
	return w
}

// P8.7: a move more, behind all others.
func TestDo(t *testing.T) {
	for i, x := range []struct {
		w api.Warehouse
		m api.Move
		e api.Errno
	}{
		{example(), move(5, 12, 3), api.OK}, {example(), move(30, 41, 0), api.OK}, {example(), move(6, 13, 1), api.OK}, {store(ints(1), nil), move(1, 1, 2), api.OK}, {store(nil), move(1, 20, 1), api.OK}, {odd(), move(5, 12, 3), api.OK}, {roomier(), move(30, 19, 5), api.OK}, {roomier(), move(30, 14, 0), api.OK},
		{full(), move(30, 14, 0), api.ErrFull}, {full(), api.Move{}, api.ErrFull}, {broken(), move(5, 12, 3), api.ErrHouse},
		{example(), api.Move{}, api.ErrMove}, {example(), move(4, 12, 3), api.ErrMove}, {example(), move(0, 12, 3), api.ErrMove}, {example(), move(31, 12, 3), api.ErrMove}, {example(), move(math.MinInt, 12, 3), api.ErrMove}, {example(), move(math.MaxInt, 12, 3), api.ErrMove},
		{example(), move(6, 11, 3), api.ErrMove}, {example(), move(6, 12, 1), api.ErrMove}, {example(), move(6, 12, 4), api.ErrMove}, {example(), move(6, 12, -1), api.ErrMove}, {example(), move(6, 22, 1), api.ErrMove}, {example(), move(6, 22, 0), api.ErrMove}, {example(), move(6, 0, 1), api.ErrMove}, {example(), move(6, 99, 1), api.ErrMove}, {example(), move(6, math.MaxInt, 1), api.ErrMove}, {roomier(), move(30, 19, 1), api.ErrMove}, {roomier(), move(30, 18, 5), api.ErrMove}, {store(nil), move(1, 20, 0), api.ErrMove}, {store(ints(1, 2, 3)), move(1, 20, 1), api.ErrMove},
	} {
		want := api.Warehouse{}
		if x.e == api.OK {
			want = copied(x.w)
			want.Moves = append(want.Moves, x.m)
		}
		if y, e := stack.Do(x.w, x.m); e != x.e || !same(y, want) {
			t.Error(i, y, e)
		}
	}
}

// P8.7: something found more, in its place.
func TestFind(t *testing.T) {
	gap := told(found(1, 13, true), found(3, 12, false))
	for i, x := range []struct {
		w  api.Warehouse
		f  api.Found
		at int
		e  api.Errno
	}{
		{example(), found(3, 22, true), 2, api.OK}, {example(), found(9999, 41, false), 2, api.OK}, {gap, found(2, 31, true), 1, api.OK}, {told(found(2, 11, false)), found(1, 11, false), 0, api.OK}, {told(), found(7, 13, false), 0, api.OK}, {odd(), found(4, 12, true), 3, api.OK}, {roomier(), found(51, 20, true), 0, api.ErrFound}, {roomier(), found(51, 16, true), 5, api.OK},
		// It may be false.
		{example(), found(3, 13, false), 2, api.OK}, {example(), found(3, 11, true), 2, api.OK},
		{full(), found(52, 1, false), 0, api.ErrFull}, {full(), found(1, 1, false), 0, api.ErrFull}, {full(), api.Found{}, 0, api.ErrFull}, {broken(), found(3, 22, true), 0, api.ErrHouse},
		{example(), api.Found{}, 0, api.ErrFound}, {example(), found(1, 41, false), 0, api.ErrFound}, {example(), found(2, 41, false), 0, api.ErrFound}, {example(), found(0, 41, false), 0, api.ErrFound}, {example(), found(10000, 41, false), 0, api.ErrFound}, {example(), found(math.MinInt, 41, false), 0, api.ErrFound}, {example(), found(math.MaxInt, 41, false), 0, api.ErrFound}, {example(), found(3, 0, false), 0, api.ErrFound}, {example(), found(3, 99, false), 0, api.ErrFound}, {example(), found(3, math.MinInt, true), 0, api.ErrFound}, {store(ints(1)), found(3, 2, false), 0, api.ErrFound},
	} {
		want := api.Warehouse{}
		if x.e == api.OK {
			want = copied(x.w)
			want.Found = slices.Insert(want.Found, x.at, x.f)
		}
		if y, e := stack.Find(x.w, x.f); e != x.e || !same(y, want) {
			t.Error(i, y, e)
		}
	}
}

// P8.7: some things that were found less.
func TestStrike(t *testing.T) {
	for i, x := range []struct {
		w       api.Warehouse
		numbers []int
		e       api.Errno
	}{
		{example(), nil, api.OK}, {example(), ints(), api.OK}, {example(), ints(1), api.OK}, {example(), ints(2), api.OK}, {example(), ints(1, 2), api.OK}, {full(), ints(1, 9999), api.OK}, {full(), ints(11, 21, 31, 41, 51, 61), api.OK}, {odd(), ints(2, 3), api.OK}, {told(), nil, api.OK},
		{broken(), nil, api.ErrHouse}, {example(), ints(2, 1), api.ErrFound}, {example(), ints(1, 1), api.ErrFound}, {example(), ints(3), api.ErrFound}, {example(), ints(1, 3), api.ErrFound}, {example(), ints(0), api.ErrFound}, {example(), ints(0, 1), api.ErrFound}, {example(), ints(math.MinInt, 1), api.ErrFound}, {example(), ints(1, math.MaxInt), api.ErrFound}, {example(), ints(1, 2, 3), api.ErrFound}, {told(), ints(1), api.ErrFound},
	} {
		want := api.Warehouse{}
		if x.e == api.OK {
			want = without(x.w, x.numbers)
		}
		if y, e := stack.Strike(x.w, x.numbers); e != x.e || !same(y, want) {
			t.Error(i, y, e)
		}
	}
}

// roomy is a warehouse whose lists have capacity behind their ends, in which nothing may be written.
func roomy(w api.Warehouse) api.Warehouse {
	w.Stacks = testhelp.Grown(w.Stacks)
	for at := range w.Stacks {
		w.Stacks[at].Bales = testhelp.Grown(w.Stacks[at].Bales)
	}
	w.Owners, w.Moves, w.Rain, w.Found = testhelp.Grown(w.Owners), testhelp.Grown(w.Moves), testhelp.Grown(w.Rain), testhelp.Grown(w.Found)
	return w
}

// whole is a copy of a warehouse with all that is behind the ends of its lists.
func whole(w api.Warehouse) api.Warehouse {
	w.Stacks = copiedStacks(w.Stacks[:cap(w.Stacks)])
	for at, x := range w.Stacks {
		w.Stacks[at].Bales = x.Bales[:cap(x.Bales)]
	}
	w.Owners, w.Moves, w.Rain, w.Found = w.Owners[:cap(w.Owners)], w.Moves[:cap(w.Moves)], w.Rain[:cap(w.Rain)], w.Found[:cap(w.Found)]
	return copied(w)
}

// P1, R3: no argument is written to, also not behind its end.
func TestArgumentsStay(t *testing.T) {
	for _, w := range []api.Warehouse{roomy(example()), roomy(odd()), roomy(roomier())} {
		before := whole(w)
		bales, seenList := testhelp.Grown(ints(11, 31)), testhelp.Grown([]api.Seen{seen(1, 1, 0), seen(3, 3, 0)})
		struck := testhelp.Grown(ints(1))
		for _, f := range calls() {
			for _, n := range ints(0, 6, 11, 16, 22, 41) {
				f.do(w, asks{n, n, 1, bales, seenList, move(30, n, 0), found(100+n, n, true), struck})
				f.do(w, asks{n, 13, 1, ints(n), nil, move(6, 12, 3), found(3, 12, false), nil})
			}
		}
		if !same(whole(w), before) {
			t.Error(whole(w))
		}
		if !slices.Equal(bales[:4], ints(11, 31, 0, 0)) || !slices.Equal(seenList[:3], []api.Seen{seen(1, 1, 0), seen(3, 3, 0), {}}) || !slices.Equal(struck[:2], ints(1, 0)) {
			t.Error(bales[:4], seenList[:3], struck[:2])
		}
	}
}

// spoil writes over all memory of a warehouse.
func spoil(w api.Warehouse) {
	for _, x := range w.Stacks {
		testhelp.Spoil(x.Bales, 77)
	}
	testhelp.Spoil(w.Stacks, pile(77, 7))
	testhelp.Spoil(w.Owners, owned(77, 7))
	testhelp.Spoil(w.Moves, move(7, 77, 7))
	testhelp.Spoil(w.Rain, 77)
	testhelp.Spoil(w.Found, found(77, 7, true))
}

// P1, R3: a result shares no memory with an argument, nor with another result.
func TestResultsAreNew(t *testing.T) {
	w := roomy(example())
	before := whole(w)
	done, _ := stack.Do(w, move(6, 12, 3))
	again, _ := stack.Do(done, move(6, 12, 0))
	wet, _ := stack.Find(w, found(3, 22, true))
	all, _ := stack.Strike(w, nil)
	fewer, _ := stack.Strike(w, ints(2))
	same2, _ := stack.Strike(all, nil)
	results := []api.Warehouse{done, again, wet, all, fewer, same2}
	if slices.ContainsFunc(results, func(x api.Warehouse) bool { return len(x.Stacks) != 3 || len(x.Owners) != 7 || len(x.Moves) < 3 }) {
		t.Error(results)
	}
	if !testhelp.Apart(results, copied, same, spoil) || !same(whole(w), before) {
		t.Error(whole(w))
	}
}

// P1, R3: nothing is remembered, also not by a list that is told; no two stacks that are told share memory.
func TestListsAreNew(t *testing.T) {
	w := example()
	for range 2 {
		l, e := stack.At(w, 30)
		if len(l) != 3 || !slices.Equal(l[0].Bales, ints(11, 12)) || e != api.OK {
			t.Error(l, e)
		}
		if !testhelp.Apart(l, func(x api.Stack) api.Stack { return copiedStacks([]api.Stack{x})[0] }, func(a, b api.Stack) bool { return sameStacks([]api.Stack{a}, []api.Stack{b}) }, func(x api.Stack) { testhelp.Spoil(x.Bales, 77) }) {
			t.Error(l)
		}
		testhelp.Spoil(l, pile(77, 7))
		above, e := stack.Above(w, 11)
		if !slices.Equal(above, ints(12)) || e != api.OK {
			t.Error(above, e)
		}
		testhelp.Spoil(above, 77)
		held, e := stack.Held(w, 1, 0)
		if !slices.Equal(held, ints(11, 12, 31)) || e != api.OK {
			t.Error(held, e)
		}
		testhelp.Spoil(held, 77)
		out, e := stack.Out(w, ints(11))
		if !slices.Equal(out, []api.Move{move(0, 12, 2), move(0, 11, 0)}) || e != api.OK {
			t.Error(out, e)
		}
		testhelp.Spoil(out, move(7, 77, 7))
		may, e := stack.May(w, nil, 13)
		if !slices.Equal(may, ints(3)) || e != api.OK {
			t.Error(may, e)
		}
		testhelp.Spoil(may, 77)
		leaks, e := stack.Leaks(w)
		if !slices.Equal(leaks, []uint8{0, 1, 2}) || e != api.OK {
			t.Error(leaks, e)
		}
		testhelp.Spoil(leaks, 77)
		wrong, e := stack.Wrong(odd())
		if !slices.Equal(wrong, ints(2)) || e != api.OK {
			t.Error(wrong, e)
		}
		testhelp.Spoil(wrong, 77)
	}
}

// P1, R4: nil lists and empty ones are the same.
func TestNilAndEmpty(t *testing.T) {
	a, b := store(nil, ints(1)), store([]int{}, ints(1))
	b.Moves, b.Rain, b.Found = []api.Move{}, []int{}, []api.Found{}
	c, d := api.Warehouse{Stacks: []api.Stack{pile(1, 1)}}, api.Warehouse{Stacks: []api.Stack{{Id: 1, Row: 1, Bales: []int{}}}, Owners: []api.Owned{}, Moves: []api.Move{}, Rain: []int{}, Found: []api.Found{}}
	for _, f := range calls() {
		for _, x := range []asks{{bale: 1, move: move(1, 2, 1), found: found(1, 1, true)}, {bales: []int{}, seen: []api.Seen{}, numbers: []int{}}} {
			for _, y := range [][2]api.Warehouse{{a, b}, {c, d}} {
				is, e := f.do(y[0], x)
				if also, g := f.do(y[1], x); e != g || is != also {
					t.Error(f.name, is, e, also, g)
				}
			}
		}
	}
	for _, w := range []api.Warehouse{a, b} {
		if l, e := stack.At(w, 0); !sameStacks(l, []api.Stack{pile(1, 1), pile(2, 1, 1)}) || e != api.OK {
			t.Error(l, e)
		}
		for _, bales := range [][]int{nil, {}} {
			if l, e := stack.Out(w, bales); len(l) != 0 || e != api.OK {
				t.Error(l, e)
			}
			if y, e := stack.Strike(w, bales); !same(y, a) || e != api.OK {
				t.Error(y, e)
			}
		}
		for _, l := range [][]api.Seen{nil, {}} {
			if n, e := stack.Unseen(w, l); n != 0 || e != api.OK {
				t.Error(n, e)
			}
		}
	}
}
