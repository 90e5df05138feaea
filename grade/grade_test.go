package grade_test

import (
	"math"
	"slices"
	"testing"

	"middling/api"
	"middling/grade"
)

// P2.2: whether there is a truth.
func TestCan(t *testing.T) {
	none := old(0, 8)
	none.Looks = nil
	for i, x := range []struct {
		d    api.Desk
		want bool
	}{
		{example(), true}, {odd(), false}, {dry(), false}, {plain(0), true}, {none, true}, {old(0, 8), false}, {old(30, 8), false}, {old(0, 1), true}, {old(0, 3), true}, {old(0, 4), false}, {old(30, 4), true}, {old(1, 4), true},
		{heard(0, 4, 4), true}, {heard(0, 4, 5), false}, {heard(1, 4, 5), true}, {heard(1, 4, 6), false}, {heard(5, 4, 6), false}, {heard(6, 4, 6), true}, {heard(30, 1, 7), true}, {heard(30, 1, 8), false}, {heard(30, 2, 8), true}, {heard(30, 1, 9), false}, {heard(0, 1, 1), true}, {heard(0, 9, 9), true},
	} {
		if is, e := grade.Can(x.d); is != x.want || e != api.OK {
			t.Error(i, is, e)
		}
	}
	empty := dry()
	empty.Bales, empty.Classers, empty.Looks = nil, nil, nil
	if is, e := grade.Can(empty); is || e != api.OK {
		t.Error(is, e)
	}
}

// P2.2: the bounds of a look, by itself alone.
func TestBounds(t *testing.T) {
	for i, x := range []struct {
		d      api.Desk
		number int
		want   api.Span
		e      api.Errno
	}{
		{example(), 1, span(30, 39), api.OK}, {example(), 2, span(40, 49), api.OK}, {example(), 3, span(24, 37), api.OK}, {example(), 5, span(60, 69), api.OK},
		{example(look(9, 1, 103, 0, 1, 1)), 9, span(-15, 9), api.OK}, {example(look(9, 1, 103, 0, 1, 9)), 9, span(80, 104), api.OK}, {example(look(9, 1, 103, 3, 1, 1)), 9, span(-15, 21), api.OK}, {example(look(9, 1, 103, 3, 1, 9)), 9, span(84, 104), api.OK}, {example(look(9, 1, 103, 3, 1, 8)), 9, span(74, 91), api.OK},
		{plain(0, look(7, 1, 1, 0, 1, 9)), 7, span(80, 89), api.OK}, {plain(0, look(7, 1, 1, 3, 1, 8)), 7, span(74, 89), api.OK}, {plain(30, look(7, 1, 1, 0, 1, 1)), 7, span(-30, 9), api.OK},
		{old(0, 3), 1, span(80, 89), api.OK}, {old(0, 4), 1, span(0, 0), api.ErrNone}, {old(1, 4), 1, span(90, 90), api.OK}, {old(30, 6), 1, span(110, 119), api.OK}, {old(30, 7), 1, span(0, 0), api.ErrNone}, {old(29, 6), 1, span(110, 118), api.OK}, {old(20, 6), 1, span(0, 0), api.ErrNone}, {old(21, 6), 1, span(110, 110), api.OK}, {old(0, 9), 1, span(0, 0), api.ErrNone}, {old(30, 1), 1, span(-30, 69), api.OK},
		{example(), 6, span(0, 0), api.ErrLook}, {odd(), 1, span(30, 39), api.OK},
	} {
		if s, e := grade.Bounds(x.d, x.number); s != x.want || e != x.e {
			t.Error(i, s, e)
		}
	}
}

// P2.2: points and grades in all truths, with the chapter's examples.
func TestPoints(t *testing.T) {
	for i, x := range []struct {
		d              api.Desk
		bale           int
		points, grades api.Span
	}{
		{example(), 101, span(45, 54), span(5, 6)}, {example(), 102, span(30, 52), span(4, 6)}, {example(), 103, span(0, 89), span(1, 9)},
		{heard(0, 1), 1, span(0, 9), span(1, 1)}, {heard(0, 9), 1, span(80, 89), span(9, 9)}, {heard(1, 2), 1, span(9, 20), span(1, 3)}, {heard(10, 1), 1, span(0, 19), span(1, 2)}, {heard(30, 9), 1, span(50, 89), span(6, 9)}, {heard(6, 4, 6), 1, span(44, 45), span(5, 5)}, {heard(30, 2, 8), 1, span(40, 49), span(5, 5)},
		{old(0, 3), 1, span(80, 89), span(9, 9)}, {old(0, 1), 1, span(0, 69), span(1, 7)}, {old(1, 4), 1, span(89, 89), span(9, 9)}, {old(0, 2), 2, span(0, 89), span(1, 9)},
		{plain(5, look(1, 1, 1, 0, 1, 4), look(2, 1, 1, 2, 2, 4)), 1, span(26, 44), span(3, 5)},
		// By the bale 1 the classer 2 leans by 1 to 10 more than 1 does, who says 3 of the bale 2, by -5 to 4 then.
		{plain(5, look(1, 1, 1, 0, 1, 4), look(2, 2, 1, 0, 1, 5), look(3, 1, 2, 0, 1, 3)), 2, span(16, 34), span(2, 4)},
	} {
		s, e := grade.Points(x.d, x.bale)
		g, f := grade.Grades(x.d, x.bale)
		if s != x.points || e != api.OK || g != x.grades || f != api.OK {
			t.Error(i, s, e, g, f)
		}
	}
}

// P2.2: whether a bale is as good as another one.
func TestBetter(t *testing.T) {
	sided := func(a, b int) api.Desk { return plain(30, look(1, 1, 1, 0, 1, a), look(2, 1, 2, 0, 1, b)) }
	near := plain(0, look(1, 1, 1, 0, 1, 4), look(2, 1, 2, 2, 2, 4))
	worst := old(1, 4)
	both := old(1, 4)
	both.Looks = append(both.Looks, look(2, 2, 2, 1, 1, 4))
	for i, x := range []struct {
		d    api.Desk
		a, b int
		want uint8
	}{
		{example(), 101, 102, api.KnownNo}, {example(), 102, 101, api.KnownYes}, {example(), 102, 103, api.KnownOpen}, {example(), 101, 101, api.KnownYes}, {example(), 103, 103, api.KnownYes},
		{sided(4, 4), 1, 2, api.KnownOpen}, {sided(3, 4), 1, 2, api.KnownYes}, {sided(4, 3), 1, 2, api.KnownNo}, {near, 1, 2, api.KnownOpen}, {near, 2, 1, api.KnownOpen},
		{worst, 1, 2, api.KnownOpen}, {worst, 2, 1, api.KnownYes}, {both, 1, 2, api.KnownYes}, {both, 2, 1, api.KnownYes},
	} {
		if k, e := grade.Better(x.d, x.a, x.b); k != x.want || e != api.OK {
			t.Error(i, k, e)
		}
	}
}

// P2.3: leans in all truths, to which side they surely are, and the bales that show it.
func TestLean(t *testing.T) {
	two := plain(1, look(1, 1, 1, 0, 1, 4), look(2, 2, 1, 0, 1, 5), look(3, 2, 2, 0, 1, 4), look(4, 3, 2, 0, 1, 5))
	low := old(1, 4)
	for i, x := range []struct {
		d       api.Desk
		classer int
		want    api.Span
		side    int
		proof   []int
	}{
		{example(), 1, span(-15, -6), -1, ints(101)}, {example(), 2, span(-14, 4), 0, nil}, {example(), 3, span(6, 15), 1, ints(101)}, {plain(30), 4, span(-30, 30), 0, nil}, {plain(0), 1, span(0, 0), 0, nil},
		{heard(5, 4, 5), 1, span(-5, 4), 0, nil}, {heard(1, 4, 5), 1, span(-1, 0), 0, nil}, {heard(1, 4, 5), 2, span(0, 1), 0, nil}, {heard(30, 4, 8), 1, span(-30, -1), -1, ints(1)}, {heard(30, 4, 8), 2, span(1, 30), 1, ints(1)}, {heard(6, 4, 6), 1, span(-6, -5), -1, ints(1)},
		{low, 1, span(1, 1), 1, ints(1)}, {low, 2, span(-1, 1), 0, nil}, {two, 1, span(-1, -1), -1, ints(1, 2)}, {two, 2, span(0, 0), 0, nil}, {two, 3, span(1, 1), 1, ints(1, 2)},
	} {
		s, e := grade.Lean(x.d, x.classer)
		n, f := grade.Leans(x.d, x.classer)
		l, g := grade.Proof(x.d, x.classer)
		wanted := api.OK
		if x.side == 0 {
			wanted = api.ErrNone
		}
		if s != x.want || e != api.OK || n != x.side || f != api.OK || !slices.Equal(l, x.proof) || g != wanted {
			t.Error(i, s, e, n, f, l, g)
		}
	}
}

// P2.3: the shortest list of bales is told, of several the first one.
func TestProofOfSeveral(t *testing.T) {
	several := plain(30, look(1, 1, 9, 0, 1, 3), look(2, 2, 9, 0, 1, 7), look(3, 1, 4, 0, 1, 2), look(4, 2, 4, 0, 1, 6), look(5, 1, 2, 0, 1, 5))
	several.Bales = ints(2, 4, 9)
	// By the bale 2 the classer 2 leans more than 1, by 4 the classer 3 more than 2, by 9 the classer 4 more than 1 by 2, or more.
	chain := plain(1, look(1, 1, 2, 0, 1, 4), look(2, 2, 2, 0, 1, 5), look(3, 2, 4, 0, 1, 4), look(4, 3, 4, 0, 1, 5))
	chain.Bales = ints(2, 4, 9)
	short := copied(chain)
	short.Looks = append(short.Looks, look(5, 1, 9, 0, 1, 4), look(6, 4, 9, 2, 2, 5))
	for i, x := range []struct {
		d       api.Desk
		classer int
		want    []int
	}{{several, 2, ints(4)}, {several, 1, ints(4)}, {chain, 1, ints(2, 4)}, {chain, 3, ints(2, 4)}, {short, 1, ints(9)}, {short, 3, ints(2, 4)}, {short, 4, ints(9)}} {
		if l, e := grade.Proof(x.d, x.classer); !slices.Equal(l, x.want) || e != api.OK {
			t.Error(i, l, e)
		}
	}
}

// P2.3: what two classers' leans differ by.
func TestDiffer(t *testing.T) {
	for i, x := range []struct {
		d    api.Desk
		a, b int
		want api.Span
	}{
		{example(), 2, 1, span(1, 15)}, {example(), 1, 2, span(-15, -1)}, {example(), 3, 1, span(21, 30)}, {example(), 3, 3, span(0, 0)}, {example(), 1, 1, span(0, 0)}, {heard(30), 1, 2, span(-60, 60)}, {heard(30, 4, 4), 1, 2, span(-9, 9)}, {heard(30, 4, 6), 2, 1, span(11, 29)}, {heard(6, 4, 6), 1, 2, span(-12, -11)}, {heard(0), 1, 2, span(0, 0)},
	} {
		if s, e := grade.Differ(x.d, x.a, x.b); s != x.want || e != api.OK {
			t.Error(i, s, e)
		}
	}
}

// P2.4: what a classer can say.
func TestSays(t *testing.T) {
	for i, x := range []struct {
		d                         api.Desk
		classer, bale, month, box int
		want                      api.Span
	}{
		{example(), 2, 102, 2, 1, span(3, 4)}, {example(), 1, 101, 0, 1, span(4, 4)}, {example(), 1, 101, 3, 1, span(2, 4)}, {example(), 1, 103, 0, 1, span(1, 9)}, {example(), 3, 102, 0, 1, span(5, 7)},
		{heard(0, 1), 2, 1, 0, 1, span(1, 1)}, {heard(0, 1), 2, 1, 3, 1, span(1, 1)}, {heard(0, 9), 2, 1, 0, 1, span(9, 9)}, {heard(30, 9), 2, 1, 0, 1, span(3, 9)}, {heard(30, 9), 2, 2, 0, 1, span(1, 9)}, {heard(0, 4), 1, 1, 1, 1, span(3, 4)}, {old(0, 3), 1, 1, 1, 1, span(3, 3)}, {old(0, 3), 1, 2, 1, 1, span(1, 3)}, {old(1, 4), 2, 1, 1, 1, span(3, 4)}, {old(1, 4), 2, 1, 0, 1, span(9, 9)},
	} {
		if s, e := grade.Says(x.d, x.classer, x.bale, x.month, x.box); s != x.want || e != api.OK {
			t.Error(i, s, e)
		}
	}
}

// P2.5: what the house says, and who is to be looked at by a third classer.
func TestDecide(t *testing.T) {
	again := plain(5, look(1, 1, 1, 0, 1, 4), look(2, 1, 1, 0, 1, 5), look(3, 2, 1, 0, 1, 5), look(4, 2, 1, 0, 1, 4))
	late := plain(9, look(1, 3, 1, 0, 1, 6), look(2, 4, 2, 0, 1, 2), look(3, 3, 1, 0, 1, 5), look(4, 4, 1, 0, 1, 5), look(5, 2, 1, 0, 1, 5), look(6, 1, 1, 0, 1, 6))
	both := plain(9, look(1, 1, 2, 0, 1, 6), look(2, 1, 1, 0, 1, 2), look(3, 2, 1, 0, 1, 3), look(4, 2, 2, 0, 1, 5))
	for i, x := range []struct {
		d     api.Desk
		bale  int
		n     int
		third []int
	}{
		{example(), 101, 5, ints(102)}, {example(), 102, 0, ints(102)}, {example(), 103, 0, ints(102)}, {odd(), 103, 0, ints(102, 103)}, {odd(), 101, 5, ints(102, 103)}, {dry(), 101, 5, ints(102)},
		{heard(0), 1, 0, nil}, {heard(0, 4), 1, 0, nil}, {heard(0, 4, 4), 1, 4, nil}, {heard(0, 4, 4), 2, 0, nil}, {heard(9, 4, 4, 9), 1, 4, nil}, {heard(9, 4, 5), 1, 0, ints(1)}, {heard(9, 4, 6, 5), 1, 5, nil}, {heard(9, 6, 4, 5), 1, 5, nil}, {heard(9, 4, 6, 9), 1, 6, nil}, {heard(9, 6, 4, 9), 1, 6, nil}, {heard(9, 4, 6, 1), 1, 4, nil}, {heard(9, 6, 4, 4), 1, 4, nil}, {heard(9, 6, 4, 6), 1, 6, nil}, {heard(9, 1, 9, 5, 5), 1, 5, nil}, {heard(9, 1, 5, 9, 9), 1, 5, nil},
		{again, 1, 0, ints(1)}, {late, 1, 5, nil}, {late, 2, 0, nil}, {both, 1, 0, ints(1, 2)}, {both, 2, 0, ints(1, 2)},
	} {
		wanted := api.OK
		if x.n == 0 {
			wanted = api.ErrNone
		}
		n, e := grade.Decide(x.d, x.bale)
		l, f := grade.Third(x.d)
		if n != x.n || e != wanted || !slices.Equal(l, x.third) || f != api.OK {
			t.Error(i, n, e, l, f)
		}
	}
}

// P2.6: the looks that leave a bale's points as they are.
func TestWhy(t *testing.T) {
	for i, x := range []struct {
		d    api.Desk
		bale int
		want []int
	}{
		{example(), 101, ints(1, 5)}, {example(), 102, ints(1, 3, 5)}, {example(), 103, nil}, {heard(0, 4), 1, ints(1)}, {heard(0, 4), 2, nil}, {heard(0, 4, 4), 1, ints(1)}, {heard(9, 4, 6, 6), 1, ints(1, 2)}, {heard(9, 4, 6, 4), 1, ints(1, 2)}, {heard(30, 3, 9), 2, nil},
		{plain(0, look(1, 1, 1, 2, 1, 4), look(2, 2, 1, 0, 1, 5)), 1, ints(1, 2)}, {plain(0, look(1, 1, 1, 2, 1, 4), look(2, 2, 1, 0, 1, 4)), 1, ints(1, 2)}, {plain(0, look(1, 1, 1, 2, 2, 4), look(2, 2, 1, 0, 1, 4), look(3, 2, 1, 2, 1, 4)), 1, ints(2, 3)}, {heard(0, 1, 1, 1, 1), 1, ints(1)},
	} {
		if l, e := grade.Why(x.d, x.bale); !slices.Equal(l, x.want) || e != api.OK {
			t.Error(i, l, e)
		}
	}
}

// P2.6: the look that leaves least at worst.
func TestAsk(t *testing.T) {
	one := plain(0)
	one.Bales, one.Classers = ints(7), ints(5)
	nobody := example()
	nobody.Classers, nobody.Looks = nil, nil
	nothing := example()
	nothing.Bales, nothing.Looks = nil, nil
	full := plain(0)
	for i := range api.MaxLooks {
		full.Looks = append(full.Looks, look(i+1, 1, 1, 0, 1, 4))
	}
	for i, x := range []struct {
		d                         api.Desk
		month, box, classer, bale int
		left                      int
		e                         api.Errno
	}{
		{example(), 0, 1, 1, 103, 55, api.OK}, {one, 0, 1, 5, 7, 9, api.OK}, {one, 2, 1, 5, 7, 17, api.OK}, {plain(0), 0, 1, 1, 1, 98, api.OK}, {plain(0, look(1, 2, 1, 0, 1, 4)), 0, 1, 1, 2, 18, api.OK}, {heard(0, 4, 4), 0, 1, 1, 2, 18, api.OK},
		{old(1, 4), 0, 1, 1, 2, 10, api.OK}, {nobody, 0, 1, 0, 0, 0, api.ErrNone}, {nothing, 0, 1, 0, 0, 0, api.ErrNone}, {full, 0, 1, 1, 2, 18, api.OK},
	} {
		c, b, n, e := grade.Ask(x.d, x.month, x.box)
		if c != x.classer || b != x.bale || n != x.left || e != x.e {
			t.Error(i, c, b, n, e)
		}
	}
}

// P2.7: looks that cannot be just.
func TestWrong(t *testing.T) {
	far := heard(0, 4, 5, 6, 7)
	farther := heard(0, 4, 5, 6, 7)
	farther.Looks = append(farther.Looks, look(5, 4, 1, 0, 1, 8))
	for i, x := range []struct {
		d    api.Desk
		want []int
		e    api.Errno
	}{
		{example(), nil, api.OK}, {odd(), ints(6), api.OK}, {dry(), nil, api.ErrBad}, {plain(0), nil, api.OK}, {heard(0, 4, 5), ints(1), api.OK}, {heard(0, 4, 5, 4), ints(2), api.OK}, {heard(0, 4, 5, 5), ints(1), api.OK}, {heard(0, 4, 4, 5), ints(3), api.OK}, {heard(0, 4, 5, 6), ints(1, 2), api.OK}, {heard(0, 4, 5, 5, 4), ints(1, 4), api.OK}, {far, ints(1, 2, 3), api.OK}, {farther, nil, api.ErrMany}, {heard(30, 1, 9), ints(1), api.OK}, {heard(30, 1, 7), nil, api.OK}, {old(0, 4), ints(1), api.OK},
	} {
		if l, e := grade.Wrong(x.d); !slices.Equal(l, x.want) || e != x.e {
			t.Error(i, l, e)
		}
	}
}

// P2.1, R5: Ids, Numbers and months of any size are just not there.
func TestGreatArguments(t *testing.T) {
	for _, n := range ints(math.MinInt, -1, 0, 10000, math.MaxInt) {
		if s, e := grade.Points(example(), n); s != span(0, 0) || e != api.ErrNone {
			t.Error(n, s, e)
		}
		if s, e := grade.Bounds(example(), n); s != span(0, 0) || e != api.ErrLook {
			t.Error(n, s, e)
		}
		if s, e := grade.Says(example(), 1, 101, 0, n); s != span(0, 0) || e != api.ErrNone {
			t.Error(n, s, e)
		}
		if s, e := grade.Says(example(), 1, 101, n, 2); s != span(0, 0) || e != api.ErrThere {
			t.Error(n, s, e)
		}
	}
}
