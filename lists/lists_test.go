package lists_test

import (
	"cmp"
	"math"
	"slices"
	"strconv"
	"testing"

	"middling/api"
	"middling/lists"
)

func ints(l ...int) []int { return l }

func itself(n int) int { return n }

func TestWithin(t *testing.T) {
	for i, x := range []struct {
		lo, hi int
		l      []int
		want   bool
	}{
		{1, 3, ints(1, 2, 3), true}, {1, 3, nil, true}, {1, 3, ints(1, 2, 4), false}, {1, 3, ints(0, 2), false}, {1, 3, ints(2, math.MinInt), false}, {1, 3, ints(math.MaxInt), false}, {2, 2, ints(2), true}, {3, 1, ints(2), false}, {3, 1, nil, true},
	} {
		if is := lists.Within(api.Span{Lo: x.lo, Hi: x.hi}, x.l...); is != x.want {
			t.Error(i, is)
		}
	}
}

func TestPart(t *testing.T) {
	for i, x := range []struct {
		lo, hi, least, most int
		want                bool
	}{
		{1, 3, 1, 3, true}, {2, 2, 1, 3, true}, {2, 1, 1, 3, false}, {0, 2, 1, 3, false}, {2, 4, 1, 3, false}, {-3, -2, -3, 3, true}, {-4, 3, -3, 3, false}, {math.MinInt, 2, 1, 3, false}, {1, math.MaxInt, 1, 3, false}, {math.MaxInt, math.MinInt, 1, 3, false}, {5, 6, 1, 3, false}, {-1, 0, 1, 3, false},
	} {
		if is := lists.Part(api.Span{Lo: x.lo, Hi: x.hi}, x.least, x.most); is != x.want {
			t.Error(i, is)
		}
	}
}

func TestKnown(t *testing.T) {
	for i, x := range []struct {
		so, not bool
		want    uint8
	}{{true, false, api.KnownYes}, {false, true, api.KnownNo}, {true, true, api.KnownOpen}} {
		if k := lists.Known(x.so, x.not); k != x.want {
			t.Error(i, k)
		}
	}
}

func TestAsked(t *testing.T) {
	asked := 0
	above := func(n, least int) bool {
		asked++
		return n > least
	}
	even := func(n, _ int) bool {
		asked++
		return n%2 == 0
	}
	l := []lists.Question[int, int]{{So: above, E: api.ErrArg}, {So: even, E: api.ErrBad}}
	for i, x := range []struct {
		n, least, asked int
		want            api.Errno
	}{{4, 3, 2, api.OK}, {5, 3, 2, api.ErrBad}, {4, 4, 1, api.ErrArg}, {3, 4, 1, api.ErrArg}} {
		asked = 0
		if e := lists.Asked(x.n, x.least, l...); e != x.want || asked != x.asked {
			t.Error(i, e, asked)
		}
	}
	if e := lists.Asked[int, int](1, 1); e != api.OK {
		t.Error(e)
	}
}

func TestTold(t *testing.T) {
	told := 0
	double := func(n int) string {
		told++
		return strconv.Itoa(2 * n)
	}
	if s, e := lists.Told(21, api.OK, double); s != "42" || e != api.OK || told != 1 {
		t.Error(s, e, told)
	}
	if s, e := lists.Told(21, api.ErrNone, double); s != "" || e != api.ErrNone || told != 1 {
		t.Error(s, e, told)
	}
}

func TestToldIf(t *testing.T) {
	half := func(n int) (string, bool) { return strconv.Itoa(n / 2), n%2 == 0 }
	for i, x := range []struct {
		n    int
		e    api.Errno
		want string
		last api.Errno
	}{{42, api.OK, "21", api.OK}, {43, api.OK, "", api.ErrMany}, {42, api.ErrNone, "", api.ErrNone}, {43, api.ErrNone, "", api.ErrNone}} {
		if s, e := lists.ToldIf(x.n, x.e, half, api.ErrMany); s != x.want || e != x.last {
			t.Error(i, s, e)
		}
	}
	if _, e := lists.ToldIf(1, api.ErrNone, func(int) (int, bool) { t.Error("told beside an error"); return 0, true }, api.ErrMany); e != api.ErrNone {
		t.Error(e)
	}
}

func TestAmong(t *testing.T) {
	for i, x := range []struct {
		all, some []int
		want      bool
	}{
		{nil, nil, true}, {ints(1, 3), nil, true}, {ints(1, 3), ints(3), true}, {ints(1, 3), ints(3, 1, 3), true}, {ints(1, 3), ints(2), false}, {ints(1, 3), ints(1, 3, 2), false}, {nil, ints(0), false}, {ints(1, 3), ints(math.MinInt), false},
	} {
		if is := lists.Among(x.all, x.some); is != x.want {
			t.Error(i, is)
		}
	}
}

func TestExcept(t *testing.T) {
	l := ints(3, 5, 3, 7)
	for i, x := range []struct{ out, want []int }{
		{nil, ints(3, 5, 3, 7)}, {ints(3), ints(5, 7)}, {ints(4, 7), ints(3, 5, 3)}, {ints(7, 5, 3), nil},
	} {
		y := lists.Except(l, x.out)
		if !slices.Equal(y, x.want) {
			t.Error(i, y)
		}
		if len(y) > 0 {
			y[0] = 99
		}
	}
	if !slices.Equal(l, ints(3, 5, 3, 7)) {
		t.Error(l)
	}
}

func TestRising(t *testing.T) {
	for i, x := range []struct {
		l    []int
		want bool
	}{
		{nil, true}, {ints(1), true}, {ints(1, 2, 9999), true}, {ints(0), false}, {ints(-1, 2), false}, {ints(2, 2), false}, {ints(3, 2), false}, {ints(1, 10000), false}, {ints(math.MinInt), false}, {ints(1, math.MaxInt), false},
	} {
		if is := lists.Rising(x.l); is != x.want {
			t.Error(i, is)
		}
	}
}

func TestNumbers(t *testing.T) {
	if l := lists.Numbers([]string{"a", "", "abc"}, func(s string) int { return len(s) }); !slices.Equal(l, ints(1, 0, 3)) {
		t.Error(l)
	}
}

func TestNumbered(t *testing.T) {
	l := []string{"a", "bb", "cc", "ddd"}
	for i, x := range []struct {
		n    int
		want string
	}{{1, "a"}, {2, "bb"}, {3, "ddd"}, {4, ""}, {0, ""}, {math.MinInt, ""}} {
		if s := lists.Numbered(l, x.n, func(s string) int { return len(s) }); s != x.want {
			t.Error(i, s)
		}
	}
}

func TestPut(t *testing.T) {
	l := append(make([]int, 0, 9), 3, 5, 7)
	for i, x := range []struct {
		n    int
		want []int
	}{{1, ints(1, 3, 5, 7)}, {4, ints(3, 4, 5, 7)}, {5, ints(3, 5, 5, 7)}, {9, ints(3, 5, 7, 9)}} {
		if y := lists.Put(l, x.n, itself); !slices.Equal(y, x.want) {
			t.Error(i, y)
		}
	}
	if y := lists.Put([]string{"a", "bb", "ccc"}, "dd", func(s string) int { return len(s) }); !slices.Equal(y, []string{"a", "dd", "bb", "ccc"}) {
		t.Error(y)
	}
	if y := lists.Put(nil, 4, itself); !slices.Equal(y, ints(4)) {
		t.Error(y)
	}
	if !slices.Equal(l[:6], ints(3, 5, 7, 0, 0, 0)) {
		t.Error(l[:6])
	}
}

func TestStrike(t *testing.T) {
	l := ints(3, 5, 7)
	for i, x := range []struct {
		out, want []int
		ok        bool
	}{
		{nil, ints(3, 5, 7), true}, {ints(3), ints(5, 7), true}, {ints(3, 7), ints(5), true}, {ints(3, 5, 7), nil, true}, {ints(4), nil, false}, {ints(7, 3), nil, false}, {ints(5, 5), nil, false}, {ints(3, 5, 7, 9), nil, false}, {ints(0), nil, false},
	} {
		y, ok := lists.Strike(l, x.out, itself)
		if !slices.Equal(y, x.want) || ok != x.ok {
			t.Error(i, y, ok)
		}
		if len(y) > 0 {
			y[0] = 99
		}
	}
	if !slices.Equal(l, ints(3, 5, 7)) {
		t.Error(l)
	}
}

func TestFewest(t *testing.T) {
	sum := func(want int) func([]int) bool {
		return func(l []int) bool {
			n := 0
			for _, x := range l {
				n += x
			}
			return n == want
		}
	}
	l := ints(9, 2, 4, 3, 7, 6)
	for i, x := range []struct {
		sum, most int
		want      []int
		ok        bool
	}{
		{0, 6, nil, true}, {0, 0, nil, true}, {7, 6, ints(7), true}, {7, 0, nil, false}, {11, 6, ints(9, 2), true}, {13, 6, ints(9, 4), true}, {14, 6, ints(9, 2, 3), true}, {31, 6, l, true}, {31, 99, l, true}, {31, 5, nil, false}, {14, 2, nil, false}, {32, 6, nil, false},
	} {
		if y, ok := lists.Fewest(l, x.most, sum(x.sum)); !slices.Equal(y, x.want) || ok != x.ok {
			t.Error(i, y, ok)
		}
	}
	var tried [][]int
	lists.Fewest(ints(1, 2, 3), 2, func(l []int) bool {
		tried = append(tried, slices.Clone(l))
		return false
	})
	if want := [][]int{nil, {1}, {2}, {3}, {1, 2}, {1, 3}, {2, 3}}; !slices.EqualFunc(tried, want, slices.Equal) {
		t.Error(tried)
	}
}

func TestFirst(t *testing.T) {
	short := func(a, b string) int { return cmp.Compare(len(a), len(b)) }
	if s, ok := lists.First(slices.Values([]string{"abc", "de", "fg", "hij"}), short); s != "de" || !ok {
		t.Error(s, ok)
	}
	if s, ok := lists.First(slices.Values([]string(nil)), short); s != "" || ok {
		t.Error(s, ok)
	}
}
