package testhelp_test

import (
	"slices"
	"testing"

	"middling/api"
	"middling/testhelp"
)

func TestSets(t *testing.T) {
	want := [][]int{nil, {0}, {1}, {2}, {0, 1}, {0, 2}, {1, 2}, {0, 1, 2}}
	if l := testhelp.Sets(3); !slices.EqualFunc(l, want, slices.Equal) {
		t.Error(l)
	}
	if l := testhelp.Sets(0); len(l) != 1 || len(l[0]) != 0 {
		t.Error(l)
	}
	if l := testhelp.Chosen([]int{7, 8, 9}, []int{0, 2}); !slices.Equal(l, []int{7, 9}) {
		t.Error(l)
	}
}

func TestFewest(t *testing.T) {
	for i, x := range []struct {
		sum, most int
		want      []int
		ok        bool
	}{{0, 0, nil, true}, {5, 3, []int{5}, true}, {9, 3, []int{4, 5}, true}, {9, 1, nil, false}, {12, 3, []int{3, 4, 5}, true}, {13, 3, nil, false}} {
		l, ok := testhelp.Fewest([]int{3, 4, 5}, x.most, func(out []int) bool {
			n := 0
			for _, k := range out {
				n += k
			}
			return n == x.sum
		})
		if !slices.Equal(l, x.want) || ok != x.ok {
			t.Error(i, l, ok)
		}
	}
}

func TestKnownBy(t *testing.T) {
	if a, b, c := testhelp.KnownBy(0, 3), testhelp.KnownBy(2, 3), testhelp.KnownBy(3, 3); a != api.KnownNo || b != api.KnownOpen || c != api.KnownYes {
		t.Error(a, b, c)
	}
}

func TestFills(t *testing.T) {
	s := api.Span{Lo: 2, Hi: 4}
	for i, x := range []struct {
		v    []int
		want bool
	}{{[]int{3, 2, 4, 3}, true}, {[]int{2, 4}, false}, {[]int{2, 3}, false}, {[]int{1, 2, 3, 4}, false}, {nil, false}} {
		if is := testhelp.Fills(s, testhelp.Sorted(x.v)); is != x.want {
			t.Error(i, is)
		}
	}
}

func TestZero(t *testing.T) {
	if is, e := testhelp.Zero(api.Span{}, api.ErrBad); !is || e != api.ErrBad {
		t.Error(is, e)
	}
	if is, e := testhelp.Zero(7, api.OK); is || e != api.OK {
		t.Error(is, e)
	}
}

func TestNoList(t *testing.T) {
	if is, e := testhelp.NoList([]int{}, api.ErrBad); !is || e != api.ErrBad {
		t.Error(is, e)
	}
	if is, e := testhelp.NoList([]int{1}, api.OK); is || e != api.OK {
		t.Error(is, e)
	}
}

func TestApart(t *testing.T) {
	spoil := func(l []int) { testhelp.Spoil(l, 77) }
	a := testhelp.Grown([]int{1, 2})
	if cap(a) < 10 || !slices.Equal(a, []int{1, 2}) {
		t.Error(a)
	}
	if !testhelp.Apart([][]int{{1, 2}, {1, 2}, a}, slices.Clone, slices.Equal, spoil) {
		t.Error(a)
	}
	if a = a[:cap(a)]; a[0] != 77 || a[len(a)-1] != 77 {
		t.Error(a)
	}
	b := []int{1, 2, 3}
	if testhelp.Apart([][]int{b[:1], {5}, b[1:]}, slices.Clone, slices.Equal, spoil) {
		t.Error(b)
	}
}

func TestEndsAnywhere(t *testing.T) {
	same := func(a, b int) bool { return a == b }
	if !testhelp.EndsAnywhere(slices.Values([]int{3, 1, 3}), same) {
		t.Error("a list")
	}
	first := 0
	if testhelp.EndsAnywhere(func(yield func(int) bool) {
		first++
		yield(first)
	}, same) {
		t.Error("another first thing each time")
	}
}
