package core_test

import (
	"math/rand"
	"slices"
	"testing"

	"middling/api"
	"middling/core"
	"middling/testhelp"
)

// graded returns all truths of the layers: the grades of each, that no draw forbids.
func graded(b api.Bale) [][]int {
	l := [][]int{nil}
	for at := range b.Layers {
		var next [][]int
		for _, grades := range l {
			for n := 1; n <= api.MaxGrade; n++ {
				forbids := func(x api.Draw) bool { return x.Layer == at && (n < x.Grade.Lo || n > x.Grade.Hi) }
				if !slices.ContainsFunc(b.Draws, forbids) {
					next = append(next, append(slices.Clone(grades), n))
				}
			}
		}
		l = next
	}
	return l
}

// weight is some truths of the weight: how damp the bale can have been at each weighing, if it weighs so much dry.
type weight struct {
	dry   int
	damps [][]int
}

// weights returns all truths of the weight.
func weights(b api.Bale) []weight {
	var l []weight
	for dry := b.Dry.Lo; dry <= b.Dry.Hi; dry++ {
		w := weight{dry: dry}
		for _, x := range b.Weighs {
			var damps []int
			for n := x.Damp.Lo; n <= x.Damp.Hi; n++ {
				if dry*(1000+n)/1000 == x.Pounds {
					damps = append(damps, n)
				}
			}
			w.damps = append(w.damps, damps)
		}
		if !slices.ContainsFunc(w.damps, func(v []int) bool { return len(v) == 0 }) {
			l = append(l, w)
		}
	}
	return l
}

func alike(l []int) bool {
	return !slices.ContainsFunc(l, func(a int) bool {
		return slices.ContainsFunc(l, func(b int) bool { return a > b+1 })
	})
}

// cutsOf returns the cuts by which layers are of two pickings.
func cutsOf(grades []int) []int {
	var l []int
	for cut := 1; cut < len(grades); cut++ {
		if !alike(grades) && alike(grades[:cut]) && alike(grades[cut:]) {
			l = append(l, cut)
		}
	}
	return l
}

// kindOf is the kind of a bale by the chapter's words.
func kindOf(grades []int) int {
	if alike(grades) {
		return api.KindPlain
	}
	if len(cutsOf(grades)) > 0 {
		return api.KindTwo
	}
	first, last := grades[0], grades[len(grades)-1]
	worse, better := max(first, last), min(first, last)
	between := grades[1 : len(grades)-1]
	if worse-better <= 1 && !slices.ContainsFunc(between, func(n int) bool { return n < worse }) && slices.ContainsFunc(between, func(n int) bool { return n-worse >= 2 }) {
		return api.KindFalse
	}
	return api.KindMixed
}

// each returns what is told of each truth, each thing once.
func each[T any](l []T, tell func(T) []int) []int {
	var v []int
	for _, x := range l {
		v = append(v, tell(x)...)
	}
	return testhelp.Sorted(v)
}

// tried runs a test for each of many small bales.
func tried(t *testing.T, bales int, test func(b api.Bale) bool) {
	c := rand.New(rand.NewSource(1))
	for i := range bales {
		b, _ := anyBale(c, [2]size{small(), untrue()}[i%2])
		if e := core.Check(b); e != api.OK {
			t.Fatal(b, e)
		}
		if !test(b) {
			t.Fatal(b)
		}
	}
}

// triedTrue is the same for bales that have a truth, with all of these.
func triedTrue(t *testing.T, bales int, test func(b api.Bale, l [][]int, w []weight) bool) {
	tried(t, bales, func(b api.Bale) bool {
		l, w := graded(b), weights(b)
		return len(l) == 0 || len(w) == 0 || test(b, l, w)
	})
}

// P3.1, P3.2: there is a truth if one can be found; ErrBad says that there is none.
func TestCanByTruths(t *testing.T) {
	counts := map[[2]bool]int{}
	tried(t, 2000, func(b api.Bale) bool {
		layers, weight := len(graded(b)) > 0, len(weights(b)) > 0
		counts[[2]bool{layers, weight}]++
		is, e := core.Can(b)
		_, f := core.Best(b)
		_, g := core.Dry(b)
		some := layers && weight
		return is == some && e == api.OK && (f == api.ErrBad) == !some && (g == api.ErrBad) == !some
	})
	if counts[[2]bool{true, true}] < 300 || counts[[2]bool{true, false}] < 100 || counts[[2]bool{false, true}] < 100 {
		t.Error(counts)
	}
}

// P3.2, P3.9: grades are just what comes about.
func TestLayersByTruths(t *testing.T) {
	triedTrue(t, 1000, func(b api.Bale, l [][]int, _ []weight) bool {
		ok := true
		for at := range b.Layers {
			s, e := core.Layer(b, at)
			ok = ok && testhelp.Fills(s, each(l, func(g []int) []int { return g[at : at+1] })) && e == api.OK
		}
		s, e := core.Best(b)
		ok = ok && testhelp.Fills(s, each(l, func(g []int) []int { return ints(slices.Min(g)) })) && e == api.OK
		s, e = core.Worst(b)
		return ok && testhelp.Fills(s, each(l, func(g []int) []int { return ints(slices.Max(g)) })) && e == api.OK
	})
}

// P3.3, P3.9, P3.10: a bale is known to be of a kind if it is in each truth.
func TestKindByTruths(t *testing.T) {
	counts := map[uint8]int{}
	triedTrue(t, 1000, func(b api.Bale, l [][]int, _ []weight) bool {
		ok := true
		for _, kind := range kinds() {
			so := 0
			for _, grades := range l {
				if kindOf(grades) == kind {
					so++
				}
			}
			k, e := core.Kind(b, kind)
			counts[k]++
			ok = ok && k == testhelp.KnownBy(so, len(l)) && e == api.OK
		}
		return ok
	})
	if counts[api.KnownNo] < 300 || counts[api.KnownOpen] < 300 || counts[api.KnownYes] < 100 {
		t.Error(counts)
	}
}

// P3.3, P3.9: cuts are those by which the bale is of two pickings in some truth.
func TestCutByTruths(t *testing.T) {
	found := map[api.Span]int{}
	triedTrue(t, 3000, func(b api.Bale, l [][]int, _ []weight) bool {
		v := each(l, cutsOf)
		s, e := core.Cut(b)
		found[s]++
		if len(v) == 0 {
			return s == api.Span{} && e == api.ErrNone
		}
		return s == span(v[0], v[len(v)-1]) && e == api.OK
	})
	for _, s := range []api.Span{span(0, 0), span(1, 1), span(2, 2), span(3, 3), span(1, 2), span(1, 3)} {
		if found[s] < 5 {
			t.Error(s, found)
		}
	}
}

// kindsIn returns the kinds of truths in which a layer has a grade.
func kindsIn(l [][]int, at, grade int) []int {
	return each(l, func(g []int) []int {
		if g[at] != grade {
			return nil
		}
		return ints(kindOf(g))
	})
}

// P3.4, P3.13: the draw that leaves the fewest kinds, whatever it shows.
func TestAskByTruths(t *testing.T) {
	counts := map[[2]int]int{}
	triedTrue(t, 2000, func(b api.Bale, l [][]int, _ []weight) bool {
		layer, least := 0, 9
		for at := range b.Layers {
			most := 0
			for n := 1; n <= api.MaxGrade; n++ {
				most = max(most, len(kindsIn(l, at, n)))
			}
			if most < least {
				layer, least = at, most
			}
		}
		counts[[2]int{layer, least}]++
		at, n, e := core.Ask(b)
		return at == layer && n == least && e == api.OK
	})
	for _, x := range [][2]int{{0, 1}, {0, 2}, {0, 3}, {1, 1}, {1, 2}, {2, 2}} {
		if counts[x] < 5 {
			t.Error(x, counts)
		}
	}
}

// decide reports whether truths that are alike in some layers are always of one kind.
func decide(l [][]int, layers []int) bool {
	kinds := map[string]int{}
	for _, grades := range l {
		var key []byte
		for _, at := range layers {
			key = append(key, byte(grades[at]))
		}
		kind := kindOf(grades)
		if other := kinds[string(key)]; other != 0 && other != kind {
			return false
		}
		kinds[string(key)] = kind
	}
	return true
}

// P3.4, P3.12: the fewest layers that decide.
func TestDecideByTruths(t *testing.T) {
	lengths := map[int]int{}
	triedTrue(t, 1000, func(b api.Bale, l [][]int, _ []weight) bool {
		k, e := core.Decide(b)
		for _, layers := range testhelp.Sets(b.Layers) {
			if decide(l, layers) {
				lengths[len(layers)]++
				return slices.Equal(k, layers) && e == api.OK
			}
		}
		return false
	})
	if lengths[0] < 100 || lengths[1] < 30 || lengths[2] < 50 || lengths[3] < 50 || lengths[4] < 10 {
		t.Error(lengths)
	}
}

// P3.5, P3.9, P3.14: weights are just what comes about, and how damp the bale was is within what comes about.
func TestWeightByTruths(t *testing.T) {
	counts := map[uint8]int{}
	triedTrue(t, 400, func(b api.Bale, _ [][]int, l []weight) bool {
		s, e := core.Dry(b)
		ok := testhelp.Fills(s, each(l, func(w weight) []int { return ints(w.dry) })) && e == api.OK
		for i, x := range b.Weighs {
			v := each(l, func(w weight) []int { return w.damps[i] })
			s, e := core.Wet(b, x.Number)
			ok = ok && s == span(v[0], v[len(v)-1]) && e == api.OK
			for damp := -1; damp <= api.MaxDamp+1; damp++ {
				k, e := core.Known(b, x.Number, damp)
				damper := 0
				for _, n := range v {
					if n > damp {
						damper++
					}
				}
				counts[k]++
				ok = ok && k == testhelp.KnownBy(damper, len(v)) && e == api.OK
			}
		}
		for damp := range api.MaxDamp + 1 {
			v := each(l, func(w weight) []int { return ints(w.dry * (1000 + damp) / 1000) })
			s, e := core.Pays(b, damp)
			ok = ok && s == span(v[0], v[len(v)-1]) && e == api.OK
		}
		return ok
	})
	if counts[api.KnownNo] < 1000 || counts[api.KnownOpen] < 1000 || counts[api.KnownYes] < 1000 {
		t.Error(counts)
	}
}

// wetIn tells of a dry weight whether some weighing can have been damper, and whether some one surely was.
func wetIn(w weight, damp int) (some, sure bool) {
	for _, v := range w.damps {
		some = some || slices.Max(v) > damp
		sure = sure || slices.Min(v) > damp
	}
	return some, sure
}

// P3.6, P3.9: a bale must be put aside if it must in each truth, of its layers with its weight.
func TestAsideByTruths(t *testing.T) {
	counts := map[uint8]int{}
	triedTrue(t, 1000, func(b api.Bale, l [][]int, w []weight) bool {
		ok := true
		for damp := 0; damp <= api.MaxDamp; damp += 20 {
			yes, no := false, false
			for _, kind := range each(l, func(g []int) []int { return ints(kindOf(g)) }) {
				for _, x := range w {
					some, sure := wetIn(x, damp)
					yes = yes || kind != api.KindPlain || some
					no = no || kind == api.KindPlain && !sure
				}
			}
			want := uint8(api.KnownOpen)
			if !no {
				want = api.KnownYes
			} else if !yes {
				want = api.KnownNo
			}
			k, e := core.Aside(b, damp)
			counts[k]++
			ok = ok && k == want && e == api.OK
		}
		return ok
	})
	if counts[api.KnownNo] < 300 || counts[api.KnownOpen] < 300 || counts[api.KnownYes] < 300 {
		t.Error(counts)
	}
}

// P3.7, P3.16, N10: the fewest draws and weighings without which there is a truth.
func TestWrongByTruths(t *testing.T) {
	draws, weighs := map[int]int{}, map[int]int{}
	tried(t, 1500, func(b api.Bale) bool {
		l, few := testhelp.Fewest(drawn(b), api.MaxFalse, func(out []int) bool { return len(graded(without(b, out, nil))) > 0 })
		k, too := testhelp.Fewest(weighed(b), api.MaxFalse, func(out []int) bool { return len(weights(without(b, nil, out))) > 0 })
		x, y, e := core.Wrong(b)
		if !few || !too {
			draws[-1]++
			return len(x) == 0 && len(y) == 0 && e == api.ErrMany
		}
		draws[len(l)]++
		weighs[len(k)]++
		return slices.Equal(x, l) && slices.Equal(y, k) && e == api.OK
	})
	if draws[-1] < 10 || draws[0] < 100 || draws[1] < 100 || draws[2] < 30 || draws[3] < 5 || weighs[1] < 100 || weighs[2] < 30 || weighs[3] < 5 {
		t.Error(draws, weighs)
	}
}
