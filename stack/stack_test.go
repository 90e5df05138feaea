package stack_test

import (
	"slices"
	"testing"

	"middling/api"
	"middling/stack"
)

// P8.2: the stacks on a day, with the chapter's examples.
func TestAt(t *testing.T) {
	for i, x := range []struct {
		w    api.Warehouse
		day  int
		want [][]int
	}{
		{example(), 0, [][]int{{11, 12, 13}, {21, 22}, {31}}}, {example(), 1, [][]int{{11, 12, 13}, {21, 22}, {31}}}, {example(), 2, [][]int{{11, 12}, {21, 22}, {31, 13}}}, {example(), 3, [][]int{{11, 12}, {21, 22}, {31, 13}}}, {example(), 4, [][]int{{11, 12}, {21}, {31, 13}}}, {example(), 5, [][]int{{11, 12}, {21, 41}, {31, 13}}}, {example(), 30, [][]int{{11, 12}, {21, 41}, {31, 13}}},
		{store(nil), 0, [][]int{nil}}, {store(nil, ints(1)), 30, [][]int{nil, {1}}},
		// All moves of one day are behind it, those of the last day too.
		{full(), 0, [][]int{{1, 2, 3}, {4, 5, 6}, {7, 8, 9}, {10, 11, 12}, {13, 14, 15}}}, {full(), 1, [][]int{{1, 2, 16}, {4, 5, 6}, {7, 8, 9}, {10, 11, 12}, {13, 14, 15}}}, {full(), 29, [][]int{{1, 2, 16}, {4, 5, 9}, {7, 8, 17}, {10, 11, 12}, {13, 14, 15}}}, {full(), 30, [][]int{{1, 2, 16}, {4, 5, 9}, {7, 8, 17}, {10, 11, 15}, {13, 14, 19}}},
	} {
		want := copied(x.w).Stacks
		for at, l := range x.want {
			want[at].Bales = l
		}
		if l, e := stack.At(x.w, x.day); !sameStacks(l, want) || e != api.OK {
			t.Error(i, l, e)
		}
	}
}

// P8.2: where a bale is, with the chapter's examples.
func TestWhere(t *testing.T) {
	for i, x := range []struct {
		w                      api.Warehouse
		bale, day, stack, high int
	}{
		{example(), 13, 1, 1, 3}, {example(), 13, 2, 3, 2}, {example(), 22, 4, 0, 0}, {example(), 22, 3, 2, 2}, {example(), 22, 30, 0, 0}, {example(), 41, 4, 0, 0}, {example(), 41, 5, 2, 2}, {example(), 41, 0, 0, 0}, {example(), 11, 0, 1, 1}, {example(), 11, 30, 1, 1}, {example(), 31, 30, 3, 1},
		{full(), 3, 0, 1, 3}, {full(), 3, 1, 0, 0}, {full(), 18, 30, 0, 0}, {full(), 18, 29, 0, 0}, {full(), 15, 30, 4, 3}, {full(), 15, 29, 5, 3},
	} {
		if s, h, e := stack.Where(x.w, x.bale, x.day); s != x.stack || h != x.high || e != api.OK {
			t.Error(i, s, h, e)
		}
	}
}

// P8.2: the bales above one, with the chapter's examples.
func TestAbove(t *testing.T) {
	for i, x := range []struct {
		w    api.Warehouse
		bale int
		want []int
		e    api.Errno
	}{
		{example(), 11, ints(12), api.OK}, {example(), 12, nil, api.OK}, {example(), 21, ints(41), api.OK}, {example(), 31, ints(13), api.OK}, {example(), 13, nil, api.OK}, {example(), 22, nil, api.ErrNone},
		{store(ints(3, 1, 2)), 3, ints(2, 1), api.OK}, {store(nil, ints(1, 2, 3)), 1, ints(3, 2), api.OK}, {store(nil, ints(1, 2, 3)), 2, ints(3), api.OK}, {full(), 18, nil, api.ErrNone}, {full(), 13, ints(19, 14), api.OK},
	} {
		if l, e := stack.Above(x.w, x.bale); !slices.Equal(l, x.want) || e != x.e {
			t.Error(i, l, e)
		}
	}
}

// P8.2: for how many bales there is room, with the chapter's example.
func TestRoom(t *testing.T) {
	for i, x := range []struct {
		w    api.Warehouse
		want int
	}{{example(), 3}, {store(nil), 3}, {store(ints(1, 2, 3)), 0}, {store(ints(1), nil, ints(2, 3)), 6}, {store(nil, nil, nil, nil, nil), 15}, {full(), 0}} {
		if n, e := stack.Room(x.w); n != x.want || e != api.OK {
			t.Error(i, n, e)
		}
	}
}

// P8.2: what an owner has in the house, with the chapter's example.
func TestHeld(t *testing.T) {
	for i, x := range []struct {
		w          api.Warehouse
		owner, day int
		want       []int
	}{
		{example(), 1, 0, ints(11, 12, 31)}, {example(), 1, 30, ints(11, 12, 31)}, {example(), 2, 0, ints(13, 21, 22)}, {example(), 2, 3, ints(13, 21, 22)}, {example(), 2, 4, ints(13, 21)}, {example(), 2, 5, ints(13, 21, 41)}, {example(), 3, 0, nil}, {example(), 0, 0, nil}, {example(), -1, 0, nil},
		// Bales are told in their order, not in that in which they lie or came.
		{store(ints(9, 2, 5)), 1, 0, ints(2, 5, 9)}, {full(), 1, 29, ints(1, 2, 4, 5, 7, 8, 9, 10, 11, 12, 13, 14, 15, 16, 17)}, {full(), 1, 30, ints(1, 2, 4, 5, 7, 8, 9, 10, 11, 13, 14, 15, 16, 17, 19)},
	} {
		if l, e := stack.Held(x.w, x.owner, x.day); !slices.Equal(l, x.want) || e != api.OK {
			t.Error(i, l, e)
		}
	}
}

// P8.3: the fewest moves that get bales out, the first list of several, with the chapter's examples.
func TestOut(t *testing.T) {
	m := func(bale, to int) api.Move { return move(0, bale, to) }
	for i, x := range []struct {
		w     api.Warehouse
		bales []int
		want  []api.Move
		e     api.Errno
	}{
		{example(), ints(11), []api.Move{m(12, 2), m(11, 0)}, api.OK}, {example(), ints(21, 31), []api.Move{m(41, 1), m(21, 0), m(13, 2), m(31, 0)}, api.OK}, {example(), nil, nil, api.OK}, {example(), ints(41), []api.Move{m(41, 0)}, api.OK}, {example(), ints(11, 12), []api.Move{m(12, 0), m(11, 0)}, api.OK},
		// The first list goes out of the first stack first, out of the house before anywhere else.
		{example(), ints(12, 13, 41), []api.Move{m(12, 0), m(41, 0), m(13, 0)}, api.OK}, {example(), ints(11, 13), []api.Move{m(12, 2), m(11, 0), m(13, 0)}, api.OK},
		// A bale that is in the way goes as far to the front as it can, but not onto one that is to be got out.
		{store(nil, ints(1, 2), ints(3, 4, 5)), ints(1), []api.Move{m(2, 1), m(1, 0)}, api.OK}, {store(ints(3), ints(1, 2)), ints(1, 3), []api.Move{m(3, 0), m(2, 1), m(1, 0)}, api.OK}, {store(ints(3, 6), ints(1, 2), nil), ints(1, 3), []api.Move{m(6, 3), m(3, 0), m(2, 1), m(1, 0)}, api.OK},
		// Sometimes one more must go aside, or be moved twice.
		{store(ints(1, 2), ints(3, 4)), ints(1, 3), []api.Move{m(2, 2), m(1, 0), m(2, 1), m(4, 1), m(3, 0)}, api.OK}, {store(ints(1, 2, 3), ints(4)), ints(1, 4), []api.Move{m(4, 0), m(3, 2), m(2, 2), m(1, 0)}, api.OK}, {store(ints(1, 2, 3), ints(4, 5)), ints(1, 4), nil, api.ErrNone},
		// Room comes about by what goes out; without any a bale below another one stays.
		{store(ints(1, 2, 3), ints(4, 5, 6)), ints(2, 6), []api.Move{m(6, 0), m(3, 2), m(2, 0)}, api.OK}, {store(ints(1, 2, 3), ints(4, 5, 6)), ints(2, 5, 6), []api.Move{m(6, 0), m(5, 0), m(3, 2), m(2, 0)}, api.OK},
		{store(ints(1, 2, 3)), ints(1), nil, api.ErrNone}, {store(ints(1, 2, 3)), ints(2, 3), []api.Move{m(3, 0), m(2, 0)}, api.OK}, {store(ints(1, 2, 3)), ints(1, 3), nil, api.ErrNone}, {store(ints(1, 2)), ints(1), nil, api.ErrNone}, {store(ints(1, 2, 3), ints(4, 5, 6)), ints(5), nil, api.ErrNone}, {full(), ints(1), nil, api.ErrNone}, {full(), ints(5, 9), []api.Move{m(9, 0), m(5, 0)}, api.OK},
	} {
		l, e := stack.Out(x.w, x.bales)
		if !slices.Equal(l, x.want) || e != x.e {
			t.Error(i, l, e)
		}
	}
}

// P8.3: the bale that takes the most moves, with the chapter's example.
func TestWorst(t *testing.T) {
	for i, x := range []struct {
		w       api.Warehouse
		bale, n int
		e       api.Errno
	}{
		{example(), 11, 2, api.OK}, {store(nil), 0, 0, api.ErrNone}, {store(nil, nil, nil), 0, 0, api.ErrNone}, {store(ints(7)), 7, 1, api.OK},
		// Of several ones the least, wherever it lies; one that cannot be got out is not asked.
		{store(ints(8, 7), ints(4, 3), nil), 4, 2, api.OK}, {store(ints(5, 3, 9), ints(8, 2, 7)), 7, 1, api.OK}, {store(ints(1, 2, 3)), 3, 1, api.OK}, {store(ints(1, 2, 3), ints(4, 5)), 2, 2, api.OK}, {store(ints(9, 8, 7), ints(1), nil), 9, 3, api.OK}, {store(nil, ints(1), ints(2)), 1, 1, api.OK},
		{example(func(w *api.Warehouse) {
			w.Stacks = []api.Stack{pile(1, 1, 11)}
			w.Moves = []api.Move{move(1, 11, 0)}
			w.Found = nil
		}), 0, 0, api.ErrNone},
	} {
		if b, n, e := stack.Worst(x.w); b != x.bale || n != x.n || e != x.e {
			t.Error(i, b, n, e)
		}
	}
}

// P8.4: moves that were not written, and where a bale can be then, with the chapter's examples.
func TestUnseenAndMay(t *testing.T) {
	l := func(x ...api.Seen) []api.Seen { return x }
	for i, x := range []struct {
		w    api.Warehouse
		seen []api.Seen
		n    int
		bale int
		may  []int
		e    api.Errno
	}{
		{example(), l(seen(1, 3, 13)), 1, 13, ints(1), api.OK}, {example(), l(seen(1, 1, 41)), 0, 41, nil, api.ErrMany}, {example(), l(seen(2, 1, 21)), 0, 13, ints(3), api.OK}, {example(), l(seen(3, 2, 0)), 1, 13, ints(0, 1, 2), api.OK},
		{example(), nil, 0, 13, ints(3), api.OK}, {example(), nil, 0, 22, ints(0), api.OK}, {example(), l(seen(3, 3, 12)), 1, 12, ints(3), api.OK}, {example(), l(seen(3, 3, 12)), 1, 31, ints(3), api.OK},
		// Two are not too many, three are; a bale that has gone out is not back.
		{example(), l(seen(1, 1, 0)), 2, 11, ints(0, 2, 3), api.OK}, {example(), l(seen(1, 1, 0)), 2, 12, ints(0, 2, 3), api.OK}, {example(), l(seen(1, 1, 0), seen(3, 2, 0)), 0, 12, nil, api.ErrMany}, {example(), l(seen(2, 2, 22)), 0, 22, nil, api.ErrMany}, {example(), l(seen(1, 3, 41), seen(3, 3, 12)), 0, 41, nil, api.ErrMany}, {example(), l(seen(1, 2, 41), seen(3, 3, 12)), 2, 41, ints(1), api.OK},
		// All that was seen, also twice, is so behind the same moves.
		{example(), l(seen(1, 2, 0), seen(1, 2, 0)), 1, 12, ints(0, 2, 3), api.OK}, {example(), l(seen(1, 2, 0), seen(1, 2, 12)), 0, 12, nil, api.ErrMany}, {example(), l(seen(1, 2, 0), seen(2, 3, 0)), 1, 12, ints(0, 3), api.OK}, {example(), l(seen(2, 2, 0), seen(3, 2, 0)), 2, 41, ints(0, 1), api.OK},
		{store(ints(1)), l(seen(1, 1, 0)), 1, 1, ints(0), api.OK}, {store(ints(1, 2, 3), ints(4, 5, 6)), l(seen(1, 3, 6)), 2, 3, ints(0), api.OK}, {store(ints(1, 2, 3), ints(4, 5, 6)), l(seen(1, 3, 6)), 2, 6, ints(1), api.OK},
	} {
		n, e := stack.Unseen(x.w, x.seen)
		may, f := stack.May(x.w, x.seen, x.bale)
		if n != x.n || e != x.e || !slices.Equal(may, x.may) || f != x.e {
			t.Error(i, n, e, may, f)
		}
	}
}

// P8.5: what leaks, and what is wet, with the chapter's examples.
func TestLeaksAndWet(t *testing.T) {
	no, open, yes := uint8(api.KnownNo), uint8(api.KnownOpen), uint8(api.KnownYes)
	l := func(x ...uint8) []uint8 { return x }
	for i, x := range []struct {
		w     api.Warehouse
		leaks []uint8
		// Of 11, 12, 13, 21, 22, 31 and 41.
		wet []uint8
	}{
		{example(), l(no, open, yes), l(no, no, yes, no, open, yes, open)},
		{told(), l(open, open, open), l(no, open, open, no, open, open, open)},
		{told(found(1, 13, true)), l(open, open, open), l(no, open, yes, no, open, open, open)},
		{told(found(1, 13, false)), l(no, open, no), l(no, no, no, no, open, no, open)},
		{told(found(5, 41, true), found(6, 13, false)), l(no, yes, no), l(no, no, no, no, yes, no, yes)},
		{told(found(1, 12, true)), l(yes, open, open), l(no, yes, yes, no, open, open, open)},
		{told(found(1, 11, false), found(2, 21, false)), l(open, open, open), l(no, open, open, no, open, open, open)},
		// It may leak where it does not rain, and where nothing lies.
		{example(func(w *api.Warehouse) { w.Rain, w.Found = nil, nil }), l(open, open, open), l(no, no, no, no, no, no, no)},
		{example(func(w *api.Warehouse) { w.Rain = ints(1); w.Found = []api.Found{found(1, 31, false)} }), l(open, open, no), l(no, no, open, no, open, no, no)},
		// On the day on which a bale comes in it is there at its end, and on that on which it goes out it is not.
		{example(func(w *api.Warehouse) { w.Rain, w.Found = ints(4), nil }), l(open, open, open), l(no, open, open, open, no, no, no)},
		{example(func(w *api.Warehouse) { w.Rain, w.Found = ints(5), nil }), l(open, open, open), l(no, open, open, no, no, no, open)},
	} {
		if is, e := stack.Can(x.w); !is || e != api.OK {
			t.Error(i, is, e)
		}
		if l, e := stack.Leaks(x.w); !slices.Equal(l, x.leaks) || e != api.OK {
			t.Error(i, l, e)
		}
		for at, bale := range ints(11, 12, 13, 21, 22, 31, 41) {
			if k, e := stack.Wet(x.w, bale); k != x.wet[at] || e != api.OK {
				t.Error(i, bale, k, e)
			}
		}
	}
	if is, e := stack.Can(odd()); is || e != api.OK {
		t.Error(is, e)
	}
}

// P8.5: of which bale it tells most to find it, with the chapter's example.
func TestLook(t *testing.T) {
	for i, x := range []struct {
		w          api.Warehouse
		bale, left int
		e          api.Errno
	}{
		{example(), 22, 1, api.OK}, {told(), 12, 4, api.OK}, {told(found(1, 13, true)), 22, 3, api.OK}, {told(found(1, 13, false)), 22, 1, api.OK}, {told(found(1, 12, true)), 22, 2, api.OK},
		{told(found(1, 13, true), found(2, 12, false), found(3, 41, true)), 0, 0, api.ErrNone}, {store(ints(1, 2, 3)), 0, 0, api.ErrNone}, {store(nil), 0, 0, api.ErrNone}, {odd(), 0, 0, api.ErrBad},
		{example(func(w *api.Warehouse) { w.Rain, w.Found = ints(4), nil }), 12, 4, api.OK},
	} {
		if b, n, e := stack.Look(x.w); b != x.bale || n != x.left || e != x.e {
			t.Error(i, b, n, e)
		}
	}
}

// P8.6: what must be false, with the chapter's example.
func TestWrong(t *testing.T) {
	for i, x := range []struct {
		w    api.Warehouse
		want []int
		e    api.Errno
	}{
		{example(), nil, api.OK}, {odd(), ints(2), api.OK}, {told(), nil, api.OK}, {many(), nil, api.ErrMany}, {without(many(), ints(2)), ints(1, 3, 4), api.OK}, {told(found(7, 11, true)), ints(7), api.OK},
		// Fewer are told before lesser ones; of as many the lesser ones.
		{told(found(1, 12, true), found(2, 12, true), found(3, 12, false)), ints(3), api.OK}, {told(found(1, 12, false), found(2, 12, true), found(3, 12, false), found(4, 12, true)), ints(1, 3), api.OK}, {told(found(1, 31, true), found(2, 13, false), found(3, 31, true)), ints(2), api.OK},
		{told(found(1, 11, true), found(2, 13, true), found(3, 12, false), found(4, 31, false), found(5, 22, true), found(6, 41, false), found(9, 21, false)), ints(1, 2, 5), api.OK},
	} {
		if l, e := stack.Wrong(x.w); !slices.Equal(l, x.want) || e != x.e {
			t.Error(i, l, e)
		}
	}
}
