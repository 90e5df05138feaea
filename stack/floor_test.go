package stack

import (
	"slices"
	"testing"

	"middling/api"
	"middling/testhelp"
)

// floorOf has stacks with some bales, and nothing else.
func floorOf(piles ...[]int) floor {
	var f floor
	for i, l := range piles {
		f.Stacks = append(f.Stacks, api.Stack{Id: 5 * (i + 1), Row: 1, Bales: l})
	}
	return f
}

// Moves come in order, may be left after any of them, and are those alone that can be.
func TestMoves(t *testing.T) {
	for i, x := range []struct {
		f    floor
		want []api.Move
	}{
		{floorOf(nil), nil}, {floorOf([]int{1, 2, 3}), []api.Move{{Bale: 3}}}, {floorOf([]int{1, 2, 3}, []int{4, 5, 6}), []api.Move{{Bale: 3}, {Bale: 6}}},
		{floorOf([]int{1, 2, 3}, nil, []int{4, 5, 6}, []int{7, 8}), []api.Move{{Bale: 3}, {Bale: 3, To: 10}, {Bale: 3, To: 20}, {Bale: 6}, {Bale: 6, To: 10}, {Bale: 6, To: 20}, {Bale: 8}, {Bale: 8, To: 10}}},
	} {
		moves := x.f.moves(x.f.last())
		if l := slices.Collect(moves); !slices.Equal(l, x.want) {
			t.Error(i, l)
		}
		if !testhelp.EndsAnywhere(moves, func(a, b api.Move) bool { return a == b }) {
			t.Error(i)
		}
	}
}

// Shapes are alike if the same is left to do, whatever the bales and the stacks are called.
func TestShapes(t *testing.T) {
	a := floorOf([]int{1, 2}, []int{3}, nil).last()
	for i, x := range []struct {
		f     floor
		out   []int
		alike bool
	}{
		{floorOf([]int{1, 2}, []int{3}, nil), []int{2}, true}, {floorOf([]int{3}, nil, []int{4, 2}), []int{2}, true}, {floorOf([]int{5, 6}, nil, []int{7}), []int{6}, true}, {floorOf([]int{5, 6}, nil, []int{7}), []int{6, 9}, true},
		{floorOf([]int{1, 2}, []int{3}, nil), []int{1}, false}, {floorOf([]int{1, 2}, []int{3}, nil), []int{3}, false}, {floorOf([]int{1, 2}, []int{3}, nil), []int{2, 3}, false}, {floorOf([]int{1, 2}, nil, nil), []int{2}, false}, {floorOf([]int{1, 2, 3}, nil, nil), []int{2}, false}, {floorOf([]int{1}, []int{3}, []int{2}), []int{2}, false},
	} {
		k, done := shapeOf(a, []int{2})
		if l, is := shapeOf(x.f.last(), x.out); (l == k) != x.alike || is || done {
			t.Error(i, l, k)
		}
	}
	if _, done := shapeOf(a, []int{4}); !done {
		t.Error("none is left")
	}
	if _, done := shapeOf(a, nil); !done {
		t.Error("none is asked for")
	}
}

// A leak over some stacks is one over those that leak.
func TestLeak(t *testing.T) {
	for p := range places(8) {
		for leaks := range places(8) {
			some := false
			for at := range 3 {
				some = some || p>>at%2 == 1 && leaks>>at%2 == 1
			}
			if p.leak(leaks) != some {
				t.Error(p, leaks)
			}
		}
	}
}
