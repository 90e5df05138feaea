package terms

import (
	"slices"
	"testing"

	"middling/api"
	"middling/testhelp"
)

// P4.6: classes that may be delivered come in the order by which one is first; a loop over them may end after any of them.
func TestClassesInOrder(t *testing.T) {
	o := offer{api.Terms{Worst: 3, Short: 8}}
	want := []api.Class{class(1, 8), class(1, 9), class(2, 8), class(2, 9), class(3, 8), class(3, 9)}
	same := func(a, b api.Class) bool { return a == b }
	for _, x := range []struct {
		l    lot
		want []api.Class
	}{
		{lot{anyGrade(), anyStaple()}, want}, {lot{api.Span{Lo: 2, Hi: 5}, api.Span{Lo: 1, Hi: 8}}, []api.Class{class(2, 8), class(3, 8)}}, {only(class(4, 9)), nil}, {only(class(1, 7)), nil}, {only(class(3, 8)), want[4:5]},
	} {
		if l := slices.Collect(o.classes(x.l)); !slices.Equal(l, x.want) {
			t.Error(x.l, l)
		}
		if !testhelp.EndsAnywhere(o.classes(x.l), same) {
			t.Error(x.l)
		}
	}
}
