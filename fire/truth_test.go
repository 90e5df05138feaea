package fire_test

import (
	"math/rand"
	"slices"
	"testing"

	"middling/api"
	"middling/fire"
	"middling/testhelp"
)

// fires are all truths of a fire, if nothing was seen.
func fires(b api.Blaze) []truth {
	took := [][]int{nil}
	for _, g := range b.Gaps {
		var longer [][]int
		for _, l := range took {
			for n := g.Minutes.Lo; n <= g.Minutes.Hi; n++ {
				longer = append(longer, append(slices.Clone(l), n))
			}
		}
		took = longer
	}
	var l []truth
	for _, began := range b.Begins {
		for _, n := range took {
			first := comes(b, truth{began: began, took: n})
			for start := b.Start.Lo; start <= b.Start.Hi; start++ {
				caught := map[int]int{}
				for id, minute := range first {
					caught[id] = start + minute
				}
				l = append(l, truth{began, start, n, caught})
			}
		}
	}
	return l
}

// holders are the houses that hold a paper on the Day, in each of its truths: passes in all orders, on all days.
func holders(b api.Blaze, x api.Paper) []int {
	var all []api.Pass
	for _, y := range b.Books.Passes {
		if y.Paper == x.Id {
			all = append(all, y)
		}
	}
	type history struct {
		made            []int
		at, last, onDay int
	}
	l := []history{{nil, x.Holder, 0, x.Holder}}
	var houses []int
	for i := 0; i < len(l); i++ {
		h := l[i]
		if len(h.made) == len(all) {
			houses = append(houses, h.onDay)
		}
		for _, y := range all {
			if y.From != h.at || slices.Contains(h.made, y.Number) {
				continue
			}
			for day := max(h.last, y.When.Lo); day <= y.When.Hi; day++ {
				next := history{append(slices.Clone(h.made), y.Number), y.To, day, h.onDay}
				if day <= b.Day {
					next.onDay = y.To
				}
				l = append(l, next)
			}
		}
	}
	return testhelp.Sorted(houses)
}

// words are what the chapter's words tell of a blaze: the stacks on the Day, all truths of the fire, and whose each bale that is in a stack then is, in all truths of the papers.
type words struct {
	api.Blaze
	piles  []api.Stack
	truths []truth
	whose  []map[int]int
}

func read(b api.Blaze) words {
	w := words{Blaze: b, piles: piles(b), truths: fires(b), whose: []map[int]int{{}}}
	w.truths = slices.DeleteFunc(w.truths, func(x truth) bool { return !x.fits(b.Glances) })
	for _, bale := range bales(b) {
		for _, x := range b.House.Owners {
			if x.Bale == bale {
				w.whose[0][bale] = x.Owner
			}
		}
	}
	for _, x := range b.Books.Papers {
		var longer []map[int]int
		for _, l := range w.whose {
			for _, house := range holders(b, x) {
				next := map[int]int{}
				for bale, owner := range l {
					next[bale] = owner
				}
				if next[x.Bale] > 0 {
					next[x.Bale] = house
				}
				longer = append(longer, next)
			}
		}
		w.whose = longer
	}
	return w
}

// can tells whether there is a truth.
func (w words) can() bool { return len(w.truths) > 0 && len(w.whose) > 0 }

// began are the stacks in which it began in truths of which something is so.
func (w words) began(is func(x truth) bool) []int {
	var l []int
	for _, x := range w.truths {
		if is(x) {
			l = append(l, x.began)
		}
	}
	return testhelp.Sorted(l)
}

// known tells what is known of something.
func (w words) known(is func(x truth) bool) uint8 {
	n := 0
	for _, x := range w.truths {
		if is(x) {
			n++
		}
	}
	return testhelp.KnownBy(n, len(w.truths))
}

// burned are the bales that were lost in a minute or before it in a truth.
func (w words) burned(x truth, minute int) []int {
	var l []int
	for _, y := range w.piles {
		if x.had(y.Id, minute) {
			l = append(l, y.Bales...)
		}
	}
	return l
}

// minutes are some that blazes by chance come to, and others.
func minutes() []int { return ints(0, 1, 2, 3, 4, 5, 6, 7, 8, 9, 10, 11, 12, 14, 17, 20, 600) }

// readSmall runs a test for what the words tell of small blazes by chance that have truths.
func readSmall(t *testing.T, n int, test func(w words, c *rand.Rand) bool) {
	none := 0
	eachBlaze(t, n, small(), func(b api.Blaze, _ truth, c *rand.Rand) bool {
		w := read(b)
		if !w.can() {
			none++
			return true
		}
		return test(w, c)
	})
	if none > n/3 {
		t.Error(none)
	}
}

// P11.2, P11.8: whether there is a truth, where it began, and when each stack caught, in all truths.
func TestCaughtByWords(t *testing.T) {
	counts := map[string]int{}
	eachBlaze(t, 400, small(), func(b api.Blaze, _ truth, _ *rand.Rand) bool {
		w := read(b)
		is, e := fire.Can(b)
		if is != w.can() || e != api.OK {
			return false
		}
		l, e := fire.Began(b)
		if !is {
			counts["none"]++
			if len(w.truths) > 0 {
				counts["no papers"]++
			}
			return len(l) == 0 && e == api.ErrBad
		}
		if len(l) > 1 {
			counts["began"]++
		}
		if len(l) < len(b.Begins) {
			counts["did not"]++
		}
		if !slices.Equal(l, w.began(func(truth) bool { return true })) || e != api.OK {
			return false
		}
		for _, id := range stacks(b) {
			var l []int
			for _, x := range w.truths {
				if n, is := x.caught[id]; is {
					l = append(l, n)
				}
			}
			s, e := fire.Caught(b, id)
			if len(l) == 0 {
				counts["never"]++
				if s != (api.Span{}) || e != api.ErrNone {
					return false
				}
				continue
			}
			if len(l) < len(w.truths) {
				counts["perhaps"]++
			}
			if s != span(slices.Min(l), slices.Max(l)) || e != api.OK {
				return false
			}
		}
		return true
	})
	for word, least := range map[string]int{"none": 30, "no papers": 10, "began": 50, "did not": 50, "never": 50, "perhaps": 50} {
		if counts[word] < least {
			t.Error(word, counts)
		}
	}
}

// P11.3: whether stacks had caught, which before which, and the minutes of gaps, in all truths.
func TestKnownByWords(t *testing.T) {
	had, before, spans := map[uint8]int{}, map[uint8]int{}, map[bool]int{}
	readSmall(t, 200, func(w words, _ *rand.Rand) bool {
		for _, id := range stacks(w.Blaze) {
			for _, minute := range minutes() {
				k, e := fire.Known(w.Blaze, id, minute)
				had[k]++
				if k != w.known(func(x truth) bool { return x.had(id, minute) }) || e != api.OK {
					return false
				}
			}
			for _, other := range stacks(w.Blaze) {
				if other == id {
					continue
				}
				k, e := fire.Before(w.Blaze, id, other)
				before[k]++
				if k != w.known(func(x truth) bool {
					a, is := x.caught[id]
					b, also := x.caught[other]
					return is && (!also || a < b)
				}) || e != api.OK {
					return false
				}
				s, e := fire.Spread(w.Blaze, id, other)
				at := slices.IndexFunc(w.Gaps, func(g api.Gap) bool { return g.A == id && g.B == other || g.A == other && g.B == id })
				spans[at < 0]++
				if at < 0 {
					if s != (api.Span{}) || e != api.ErrNone {
						return false
					}
					continue
				}
				var l []int
				for _, x := range w.truths {
					l = append(l, x.took[at])
				}
				if s != w.Gaps[at].Minutes {
					spans[true]++
				}
				if s != span(slices.Min(l), slices.Max(l)) || e != api.OK {
					return false
				}
			}
		}
		return true
	})
	for _, k := range []uint8{api.KnownNo, api.KnownOpen, api.KnownYes} {
		if had[k] < 500 || before[k] < 50 {
			t.Error(k, had, before)
		}
	}
	if spans[false] < 100 || spans[true] < 50 {
		t.Error(spans)
	}
}

// P11.4, P11.11: which bales were lost, and what it cost each house, in all truths of the fire and of the papers.
func TestLostByWords(t *testing.T) {
	sures, mays, costs := map[int]int{}, map[int]int{}, map[int]int{}
	readSmall(t, 150, func(w words, _ *rand.Rand) bool {
		for _, minute := range minutes() {
			sure, may := bales(w.Blaze), ints()
			for _, x := range w.truths {
				l := w.burned(x, minute)
				sure = slices.DeleteFunc(sure, func(bale int) bool { return !slices.Contains(l, bale) })
				may = append(may, l...)
			}
			may = testhelp.Sorted(may)
			sures[len(sure)]++
			mays[len(may)-len(sure)]++
			l, k, e := fire.Lost(w.Blaze, minute)
			if !slices.Equal(l, sure) || !slices.Equal(k, may) || e != api.OK {
				return false
			}
			for _, house := range houses() {
				want := span(99, 0)
				for _, x := range w.truths {
					burned := w.burned(x, minute)
					for _, owners := range w.whose {
						n := 0
						for _, bale := range burned {
							if owners[bale] == house {
								n++
							}
						}
						want = span(min(want.Lo, n), max(want.Hi, n))
					}
				}
				costs[want.Hi-want.Lo]++
				if s, e := fire.Costs(w.Blaze, house, minute); s != want || e != api.OK {
					return false
				}
			}
		}
		return true
	})
	if sures[0] < 200 || sures[2] < 50 || sures[4] < 20 || mays[0] < 200 || mays[2] < 50 || mays[4] < 10 || costs[0] < 500 || costs[1] < 300 || costs[2] < 50 {
		t.Error(sures, mays, costs)
	}
}

// P11.4, P11.12: whose bales are, in all truths of the papers.
func TestWhoseByWords(t *testing.T) {
	counts := map[int]int{}
	for _, s := range []size{small(), large()} {
		eachBlaze(t, 400, s, func(b api.Blaze, _ truth, _ *rand.Rand) bool {
			if is, _ := fire.Can(b); !is {
				return true
			}
			// Where it began, and how it went, tells nothing of whose bales are.
			w := b
			w.Gaps, w.Glances = nil, nil
			all := read(w)
			for bale := -1; bale <= 40; bale++ {
				var want []int
				for _, owners := range all.whose {
					if owners[bale] > 0 {
						want = append(want, owners[bale])
					}
				}
				want = testhelp.Sorted(want)
				counts[len(want)]++
				l, e := fire.Whose(b, bale)
				if !slices.Equal(l, want) || (e == api.OK) != (len(want) > 0) || e != api.OK && e != api.ErrNone {
					return false
				}
			}
			return true
		})
	}
	if counts[0] < 500 || counts[1] < 500 || counts[2] < 50 || counts[3] < 10 {
		t.Error(counts)
	}
}

// P11.5, P11.13: the look that tells most, of all truths.
func TestAskByWords(t *testing.T) {
	firsts, lefts := map[bool]int{}, map[bool]int{}
	readSmall(t, 250, func(w words, _ *rand.Rand) bool {
		now := len(w.began(func(truth) bool { return true }))
		for _, minute := range minutes() {
			id, left := 0, 99
			for _, x := range stacks(w.Blaze) {
				burns := w.began(func(y truth) bool { return y.had(x, minute) })
				not := w.began(func(y truth) bool { return !y.had(x, minute) })
				if n := max(len(burns), len(not)); n < left {
					id, left = x, n
				}
			}
			firsts[id == stacks(w.Blaze)[0]]++
			lefts[left < now]++
			of, n, e := fire.Ask(w.Blaze, minute)
			if of != id || n != left || e != api.OK {
				return false
			}
		}
		return true
	})
	if firsts[false] < 100 || firsts[true] < 100 || lefts[false] < 100 || lefts[true] < 100 {
		t.Error(firsts, lefts)
	}
}

// P11.6, P11.14, N10: the fewest glances that must be false, of all sets of them.
func TestWrongByWords(t *testing.T) {
	counts := map[int]int{}
	eachBlaze(t, 400, untrue(), func(b api.Blaze, _ truth, _ *rand.Rand) bool {
		all := fires(b)
		want, few := testhelp.Fewest(numbers(b), api.MaxFalse, func(out []int) bool {
			left := without(b, out).Glances
			return slices.ContainsFunc(all, func(x truth) bool { return x.fits(left) })
		})
		l, e := fire.Wrong(b)
		if !few {
			counts[-1]++
			return len(l) == 0 && e == api.ErrMany
		}
		counts[len(l)]++
		return slices.Equal(l, want) && e == api.OK
	})
	if counts[-1] < 5 || counts[0] < 50 || counts[1] < 50 || counts[2] < 20 || counts[3] < 10 {
		t.Error(counts)
	}
}
