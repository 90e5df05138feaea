package grade

import (
	"cmp"
	"iter"
	"slices"

	"middling/api"
	"middling/lists"
)

// Proof returns the fewest bales that show to which side a classer leans (P2.3).
func Proof(d api.Desk, classer int) ([]int, api.Errno) {
	v, e := open(d, about{classers: []int{classer}})
	if e != api.OK {
		return nil, e
	}
	side := v.leans(classer)
	if side == 0 {
		return nil, api.ErrNone
	}
	l, _ := lists.Fewest(v.Bales, len(v.Bales), func(bales []int) bool {
		alone := v.without(func(x api.Look) bool { return !slices.Contains(bales, x.Bale) })
		return alone.seen().leans(classer) == side
	})
	return l, api.OK
}

// Why returns the fewest looks that leave a bale's points as they are (P2.6).
func Why(d api.Desk, bale int) ([]int, api.Errno) {
	return told(d, about{bales: []int{bale}}, func(v view) []int {
		points := v.points(bale)
		l, _ := lists.Fewest(lists.Numbers(v.Looks, number), len(v.Looks), func(looks []int) bool {
			alone := v.without(func(x api.Look) bool { return !slices.Contains(looks, x.Number) })
			return alone.seen().points(bale) == points
		})
		return l
	})
}

// Wrong returns the fewest looks that cannot be just (P2.7).
func Wrong(d api.Desk) ([]int, api.Errno) {
	if e := asked(d, about{need: trueRoom}); e != api.OK {
		return nil, e
	}
	t := lay(d)
	l, ok := lists.Fewest(lists.Numbers(t.Looks, number), api.MaxWrong, func(looks []int) bool {
		return t.without(func(x api.Look) bool { return slices.Contains(looks, x.Number) }).seen().can
	})
	if !ok {
		return nil, api.ErrMany
	}
	return l, api.OK
}

// Ask returns the look that leaves least at worst, and how much this is (P2.6).
func Ask(d api.Desk, month, box int) (classer, bale, left int, e api.Errno) {
	p := place{month, box}
	v, e := open(d, about{beside: []place{p}})
	if e != api.OK {
		return 0, 0, 0, e
	}
	c, ok := lists.First(v.choices(yellowed(d.Room, p)), func(a, b choice) int {
		return cmp.Or(cmp.Compare(a.left, b.left), cmp.Compare(a.classer, b.classer), cmp.Compare(a.bale, b.bale))
	})
	if !ok {
		return 0, 0, 0, api.ErrNone
	}
	return c.classer, c.bale, c.left, api.OK
}

// choice is a look that can be asked for, and how much it leaves at worst.
type choice struct{ classer, bale, left int }

// choices yields all looks that can be asked for beside a box that has yellowed by so much.
func (v view) choices(yellow api.Span) iter.Seq[choice] {
	return func(yield func(choice) bool) {
		for _, c := range v.Classers {
			for _, b := range v.Bales {
				if !yield(choice{c, b, v.leaves(c, b, yellow)}) {
					return
				}
			}
		}
	}
}

// leaves returns how much a look at a bale leaves at worst, whatever is said.
func (v view) leaves(classer, bale int, yellow api.Span) int {
	most := 0
	s := v.says(classer, bale, yellow)
	for grade := s.Lo; grade <= s.Hi; grade++ {
		// The Number 0 is that of no look of the desk.
		more := v.with(api.Look{Classer: classer, Bale: bale}, v.sums(grade, yellow))
		most = max(most, wide(v.Bales, more.seen().points))
	}
	return most
}

// wide returns by how much the ends of what is known of bales differ, all together.
func wide(bales []int, known func(bale int) api.Span) int {
	sum := 0
	for _, b := range bales {
		s := known(b)
		sum += s.Hi - s.Lo
	}
	return sum
}
