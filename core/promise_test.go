package core_test

import (
	"math"
	"math/rand"
	"slices"
	"testing"

	"middling/api"
	"middling/core"
	"middling/testhelp"
)

// eachTrue runs a test for each of some large bales that have a truth, and for one that is known.
func eachTrue(t *testing.T, bales int, test func(b api.Bale, h hidden, c *rand.Rand) bool) {
	c := rand.New(rand.NewSource(3))
	for range bales {
		b, h := anyBale(c, large())
		if !can(b) {
			t.Fatal("no truth", b)
		}
		if !test(b, h, c) {
			t.Fatal(b)
		}
	}
}

func layer(b api.Bale, at int) api.Span {
	s, _ := core.Layer(b, at)
	return s
}

func kind(b api.Bale, n int) uint8 {
	k, _ := core.Kind(b, n)
	return k
}

// spans returns all spans that are told of a bale, for its first weighings.
func spans(b api.Bale, weighings int) []api.Span {
	var l []api.Span
	add := func(s api.Span, e api.Errno) { l = append(l, s) }
	for at := range b.Layers {
		add(core.Layer(b, at))
	}
	add(core.Best(b))
	add(core.Worst(b))
	add(core.Dry(b))
	for _, n := range weighed(b)[:weighings] {
		add(core.Wet(b, n))
	}
	for damp := range api.MaxDamp + 1 {
		add(core.Pays(b, damp))
	}
	return l
}

// knowns returns all that is known of a bale, or open, for its first weighings.
func knowns(b api.Bale, weighings int) []uint8 {
	var l []uint8
	add := func(k uint8, e api.Errno) { l = append(l, k) }
	for _, n := range kinds() {
		add(core.Kind(b, n))
	}
	for damp := 0; damp <= api.MaxDamp; damp += 7 {
		for _, n := range weighed(b)[:weighings] {
			add(core.Known(b, n, damp))
		}
	}
	return l
}

// asides returns what is known of whether a bale must be put aside.
func asides(b api.Bale) []uint8 {
	var l []uint8
	for damp := 0; damp <= api.MaxDamp; damp += 50 {
		k, _ := core.Aside(b, damp)
		l = append(l, k)
	}
	return l
}

// P3.9, N1: what is told holds of a truth that is known.
func TestTruthIsWithin(t *testing.T) {
	eachTrue(t, 300, func(b api.Bale, h hidden, c *rand.Rand) bool {
		ok := true
		for at := range b.Layers {
			ok = ok && has(layer(b, at), h.grades[at])
		}
		best, _ := core.Best(b)
		worst, _ := core.Worst(b)
		dry, _ := core.Dry(b)
		ok = ok && has(best, slices.Min(h.grades)) && has(worst, slices.Max(h.grades)) && has(dry, h.dry) && inside(dry, b.Dry)
		ok = ok && kind(b, kindOf(h.grades)) != api.KnownNo
		for _, cut := range cutsOf(h.grades) {
			s, e := core.Cut(b)
			ok = ok && has(s, cut) && e == api.OK
		}
		for _, x := range b.Weighs {
			s, e := core.Wet(b, x.Number)
			ok = ok && inside(s, x.Damp) && e == api.OK
		}
		damp := c.Intn(api.MaxDamp + 1)
		s, e := core.Pays(b, damp)
		return ok && has(s, h.dry*(1000+damp)/1000) && e == api.OK
	})
}

// P3.10: a bale is of some kind, of no two for sure, and of two pickings if there is a cut.
func TestSomeKind(t *testing.T) {
	counts := map[int]int{}
	eachTrue(t, 500, func(b api.Bale, _ hidden, _ *rand.Rand) bool {
		var l []uint8
		for _, n := range kinds() {
			l = append(l, kind(b, n))
		}
		slices.Sort(l)
		no := 0
		for _, k := range l {
			if k == api.KnownNo {
				no++
			}
		}
		counts[no]++
		_, e := core.Cut(b)
		if (e == api.ErrNone) != (kind(b, api.KindTwo) == api.KnownNo) {
			return false
		}
		// Either one kind is sure, and no other one can be, or several are open.
		return no == 3 && l[3] == api.KnownYes || no < 3 && l[3] == api.KnownOpen
	})
	if counts[0] < 30 || counts[1] < 30 || counts[2] < 30 || counts[3] < 30 {
		t.Error(counts)
	}
}

// P3.11: one draw more, or one weighing, never makes less known.
func TestMoreIsKnown(t *testing.T) {
	tighter, surer := 0, 0
	eachTrue(t, 200, func(b api.Bale, h hidden, c *rand.Rand) bool {
		b.Draws, b.Weighs = b.Draws[:min(len(b.Draws), api.MaxDraws-1)], b.Weighs[:min(len(b.Weighs), api.MaxWeighs-1)]
		y, e := core.Put(b, anyDraw(c, h, 9000, 3))
		z, f := core.Weighed(b, anyWeigh(c, h, 9000))
		if e != api.OK || f != api.OK || !can(y) || !can(z) {
			return false
		}
		n := len(b.Weighs)
		old, was := spans(b, n), knowns(b, n)
		sure, put, weighed := asides(b), asides(y), asides(z)
		for _, more := range []api.Bale{y, z} {
			for i, s := range spans(more, n) {
				if !inside(s, old[i]) {
					return false
				}
				if s != old[i] {
					tighter++
				}
			}
			for i, k := range knowns(more, n) {
				if k != was[i] && was[i] != api.KnownOpen {
					return false
				}
				if k != was[i] {
					surer++
				}
			}
		}
		for i, k := range sure {
			// A weighing more is one more at which the bale can have been damp: just what surely is put aside stays so.
			if k != api.KnownOpen && put[i] != k || k == api.KnownYes && weighed[i] != k {
				return false
			}
		}
		return fewerLeft(b, y)
	})
	if tighter < 300 || surer < 100 {
		t.Error(tighter, surer)
	}
}

// fewerLeft reports whether a bale of which more is known leaves no more kinds, cuts and layers to be drawn.
func fewerLeft(b, more api.Bale) bool {
	s, e := core.Cut(b)
	u, f := core.Cut(more)
	_, n, _ := core.Ask(b)
	_, m, _ := core.Ask(more)
	l, _ := core.Decide(b)
	k, _ := core.Decide(more)
	return (f == api.ErrNone || e == api.OK && inside(u, s)) && m <= n && len(k) <= len(l)
}

// showings calls a test with the bale after draws of some layers, whatever they show, of all that they may show: true if each test is.
func showings(b api.Bale, layers []int, test func(api.Bale) bool) bool {
	if len(layers) == 0 {
		return test(b)
	}
	s := layer(b, layers[0])
	for n := s.Lo; n <= s.Hi; n++ {
		y := b
		y.Draws = append(slices.Clone(b.Draws), draw(9000+layers[0], layers[0], n, n))
		if !showings(y, layers[1:], test) {
			return false
		}
	}
	return true
}

// isDecided reports whether a bale surely is of one kind.
func isDecided(b api.Bale) bool {
	return slices.ContainsFunc(kinds(), func(n int) bool { return kind(b, n) == api.KnownYes })
}

// P3.12, N2: drawn, the layers that are told leave one kind; no fewer do, nor others before them.
func TestLayersDecide(t *testing.T) {
	lengths := map[int]int{}
	eachTrue(t, 150, func(b api.Bale, _ hidden, c *rand.Rand) bool {
		// There must be room for draws of all layers.
		b.Draws = b.Draws[:min(len(b.Draws), api.MaxDraws-b.Layers)]
		l, e := core.Decide(b)
		if e != api.OK || !showings(b, l, isDecided) {
			return false
		}
		lengths[len(l)]++
		for _, layers := range testhelp.Sets(b.Layers) {
			if slices.Equal(layers, l) {
				return true
			}
			if showings(b, layers, isDecided) {
				return false
			}
		}
		return false
	})
	if lengths[0] < 10 || lengths[1] < 10 || lengths[2] < 10 || lengths[3] < 10 || lengths[4] < 10 {
		t.Error(lengths)
	}
}

// P3.13: no layer's draw leaves fewer kinds than that of the layer that is told, and none before it as few.
func TestDrawLeavesFewest(t *testing.T) {
	eachTrue(t, 200, func(b api.Bale, _ hidden, _ *rand.Rand) bool {
		b.Draws = b.Draws[:min(len(b.Draws), api.MaxDraws-1)]
		layer, least, e := core.Ask(b)
		if e != api.OK {
			return false
		}
		for at := range b.Layers {
			most := 0
			showings(b, ints(at), func(y api.Bale) bool {
				left := 0
				for _, n := range kinds() {
					if kind(y, n) != api.KnownNo {
						left++
					}
				}
				most = max(most, left)
				return true
			})
			if most < least || most == least && at < layer || at == layer && most != least {
				return false
			}
		}
		return layer >= 0 && layer < b.Layers
	})
}

// P3.14: a dry weight between two that can be can be, and no other one; more that may be damp is never paid less.
func TestWeightsAreClose(t *testing.T) {
	eachTrue(t, 200, func(b api.Bale, _ hidden, _ *rand.Rand) bool {
		s, e := core.Dry(b)
		if e != api.OK {
			return false
		}
		for dry := b.Dry.Lo; dry <= b.Dry.Hi; dry++ {
			y := b
			y.Dry = span(dry, dry)
			if can(y) != has(s, dry) {
				return false
			}
		}
		last := api.Span{}
		for damp := range api.MaxDamp + 1 {
			p, e := core.Pays(b, damp)
			if p.Lo < last.Lo || p.Hi < last.Hi || e != api.OK || damp == 0 && p != s {
				return false
			}
			last = p
		}
		return true
	})
}

// P3.6, P3.15: what is put aside is so for a kind, or for a weighing, of which this is known; what is open, for one that is open.
func TestAsideIsKnown(t *testing.T) {
	counts := map[uint8]int{}
	eachTrue(t, 200, func(b api.Bale, _ hidden, _ *rand.Rand) bool {
		kind := api.KnownYes - kind(b, api.KindPlain)
		for damp := 0; damp <= api.MaxDamp; damp += 10 {
			want := kind
			for _, n := range weighed(b) {
				k, _ := core.Known(b, n, damp)
				want = max(want, k)
			}
			k, e := core.Aside(b, damp)
			counts[k]++
			if k != want || e != api.OK {
				return false
			}
		}
		return true
	})
	if counts[api.KnownNo] < 100 || counts[api.KnownOpen] < 100 || counts[api.KnownYes] < 100 {
		t.Error(counts)
	}
}

// P3.16, N10: without the draws and weighings that are told there is a truth, with fewer left out, or others before them, there is none.
func TestFewestAreFalse(t *testing.T) {
	c := rand.New(rand.NewSource(4))
	counts := map[api.Errno]int{}
	for range 500 {
		s := large()
		s.odd = c.Intn(60)
		b, _ := anyBale(c, s)
		draws, few := testhelp.Fewest(drawn(b), api.MaxFalse, func(out []int) bool { return can(without(b, out, weighed(b))) })
		weighs, too := testhelp.Fewest(weighed(b), api.MaxFalse, func(out []int) bool { return can(without(b, drawn(b), out)) })
		want := api.OK
		if !few || !too {
			draws, weighs, want = nil, nil, api.ErrMany
		}
		l, k, e := core.Wrong(b)
		if !slices.Equal(l, draws) || !slices.Equal(k, weighs) || e != want {
			t.Fatal(b, l, k, e)
		}
		if y, f := core.Strike(b, l, k); f != api.OK || can(y) != (e == api.OK) {
			t.Fatal(b, y, f)
		}
		counts[e]++
	}
	if counts[api.OK] < 100 || counts[api.ErrMany] < 20 {
		t.Error(counts)
	}
}

// P1, R5, R7: each call ends with an answer, whatever its arguments are.
func TestAnyValue(t *testing.T) {
	odd := ints(math.MinInt, math.MinInt+1, -10000, -1, 0, 1, 2, 3, 9, 200, 480, 600, 10000, math.MaxInt-1, math.MaxInt)
	c := rand.New(rand.NewSource(6))
	some := func() int { return odd[c.Intn(len(odd))] }
	list := func() []int { return slices.Repeat(ints(some(), some()), c.Intn(4)) }
	for range 3000 {
		b := example()
		switch c.Intn(4) {
		case 0:
			b = api.Bale{Id: some(), Layers: some(), Dry: span(some(), some())}
		case 1:
			b.Dry = span(some(), some())
		case 2:
			b.Layers = some()
		}
		for range c.Intn(3) {
			b.Draws = append(b.Draws, draw(some(), some(), some(), some()))
		}
		for range c.Intn(3) {
			b.Weighs = append(b.Weighs, weigh(some(), some(), some(), some()))
		}
		for _, x := range calls() {
			if is, e := x.do(b, asks{some(), some(), some(), some()}); e != api.OK && !is {
				t.Fatal(x.name, b, e)
			}
		}
		core.Put(b, draw(some(), some(), some(), some()))
		core.Weighed(b, weigh(some(), some(), some(), some()))
		core.Strike(b, list(), list())
	}
}
