package stack

import (
	"cmp"
	"slices"

	"middling/api"
	"middling/lists"
)

// places are some of the stacks, by bits: the least one is that of the first stack.
type places uint8

// leak reports whether there is a leak over one of these stacks, if those with leaks are told.
func (p places) leak(leaks places) bool { return p&leaks != 0 }

// under returns, for each bale, the stacks on top of which it was in the rain.
func (f floor) under() map[int]places {
	under := map[int]places{}
	for _, day := range f.Rain {
		s := f.on(day)
		for at := range f.Stacks {
			if bale := s[at].top(); bale != 0 {
				under[bale] |= 1 << at
			}
		}
	}
	return under
}

// truths returns the stacks over which there are leaks in each truth.
func (f floor) truths() []places {
	var l []places
	under := f.under()
	for leaks := range places(1) << len(f.Stacks) {
		if !slices.ContainsFunc(f.Found, func(x api.Found) bool { return under[x.Bale].leak(leaks) != x.Wet }) {
			l = append(l, leaks)
		}
	}
	return l
}

// can reports whether there is a truth.
func (f floor) can() bool { return len(f.truths()) > 0 }

// spares reports whether there is a truth without some of what was found.
func (f floor) spares(out []api.Found) bool {
	f.Found = lists.Except(f.Found, out)
	return f.can()
}

// counts returns in how many truths something is so, and in how many it is not.
func (f floor) counts(so func(leaks places) bool) (yes, no int) {
	for _, leaks := range f.truths() {
		if so(leaks) {
			yes++
		} else {
			no++
		}
	}
	return yes, no
}

// known tells what is known of something.
func (f floor) known(so func(leaks places) bool) uint8 {
	yes, no := f.counts(so)
	return lists.Known(yes > 0, no > 0)
}

// leaks tells what is known of whether there is a leak over each stack, in order.
func (f floor) leaks() []uint8 {
	var l []uint8
	for at := range f.Stacks {
		l = append(l, f.known((places(1) << at).leak))
	}
	return l
}

// wet tells what is known of whether a bale became wet.
func (f floor) wet(bale int) uint8 { return f.known(f.under()[bale].leak) }

// look returns the bale of which it tells most whether it is wet, and how many truths are left then at worst: false if there is none.
func (f floor) look() (tally, bool) {
	var l []tally
	under := f.under()
	for _, bale := range f.been() {
		if yes, no := f.counts(under[bale].leak); yes > 0 && no > 0 {
			l = append(l, tally{bale, max(yes, no)})
		}
	}
	return lists.First(slices.Values(l), func(a, b tally) int {
		return cmp.Or(cmp.Compare(a.n, b.n), cmp.Compare(a.bale, b.bale))
	})
}
