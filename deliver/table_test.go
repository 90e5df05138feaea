package deliver

import (
	"cmp"
	"slices"
	"testing"

	"middling/api"
	"middling/testhelp"
)

// alike has deals of one bale each, and wares, all alike.
func alike(deals, wares int) api.Yard {
	var y api.Yard
	for j := range deals {
		y.Deals = append(y.Deals, api.Deal{Id: j + 1, Terms: api.Terms{Base: api.Class{Grade: 9, Staple: 1}, Price: 1, Worst: 9, Short: 1, Grades: make([]int, 9), Staples: make([]int, 9), Bales: 1}})
	}
	for i := range wares {
		y.Wares = append(y.Wares, api.Ware{Id: i + 1, Grades: api.Span{Lo: 1, Hi: 9}, Staples: api.Span{Lo: 1, Hi: 9}})
	}
	return y
}

func equal[T comparable](a, b T) bool { return a == b }

// Loops may end after any step, or plan, and begin again.
func TestLoopsEndAnywhere(t *testing.T) {
	x := lay(alike(2, 3))
	s := x.start()
	if l := slices.Collect(x.steps(s)); len(l) != 3 || l[0].deal != 0 || l[1].deal != 1 || l[2].deal != 2 {
		t.Error(l)
	}
	if l := slices.Collect(x.steps(state{3, 1, 1})); len(l) != 0 {
		t.Error(l)
	}
	if l := slices.Collect(x.steps(state{2, 0, 1})); len(l) != 2 || l[1] != (step{2, value{bales: 1, pence: -1}, state{3, 0, 0}}) {
		t.Error(l)
	}
	// Two of three wares go to two deals, either way.
	want := [][]int{{0, 1, 2}, {0, 2, 1}, {1, 0, 2}, {1, 2, 0}, {2, 0, 1}, {2, 1, 0}}
	l := slices.Collect(x.plans())
	if !slices.EqualFunc(l, want, slices.Equal) {
		t.Error(l)
	}
	if !testhelp.EndsAnywhere(x.steps(s), equal) || !testhelp.EndsAnywhere(x.bestSteps(s), equal) || !testhelp.EndsAnywhere(x.plans(), slices.Equal) {
		t.Error(x)
	}
	if !testhelp.Apart(l, slices.Clone, slices.Equal, func(plan []int) { testhelp.Spoil(plan, 77) }) {
		t.Error(l)
	}
}

// P5.8: a plan that delivers more weighs more, whatever its risks and costs are; with as many one with fewer risks; then one that costs less.
func TestWeightsAreInOrder(t *testing.T) {
	least, most := -api.MaxWares*(api.MaxPence+2*api.MaxStep), api.MaxWares*api.MaxPence
	var l []value
	for bales := range api.MaxWares + 1 {
		for risks := bales; risks >= 0; risks-- {
			for _, pence := range []int{most, most - 1, 0, least + 1, least} {
				l = append(l, value{bales, risks, pence})
			}
		}
	}
	if !slices.IsSortedFunc(l, func(a, b value) int { return cmp.Compare(a.weight(), b.weight()) }) {
		t.Error(l)
	}
	for i, v := range l[1:] {
		if v.weight() == l[i].weight() {
			t.Error(v, l[i])
		}
	}
}

// R3: what is the best without a ware is not kept for the whole.
func TestWithoutIsApart(t *testing.T) {
	x := lay(alike(2, 2))
	if n := x.without(1).most(); n != (value{bales: 1, pence: -1}) {
		t.Error(n)
	}
	if n := x.most(); n != (value{bales: 2, pence: -2}) {
		t.Error(n)
	}
	if n := x.without(0).most(); n != (value{bales: 1, pence: -1}) {
		t.Error(n)
	}
}
