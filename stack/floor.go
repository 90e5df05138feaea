package stack

import (
	"iter"
	"slices"

	"middling/api"
	"middling/lists"
)

// pile is the bales of a stack, from the floor up: 0 where there is none.
type pile [api.MaxHigh]int

// height returns how many bales there are.
func (p pile) height() int {
	for high := range api.MaxHigh {
		if p[high] == 0 {
			return high
		}
	}
	return api.MaxHigh
}

// bales returns them from the floor up, in memory of their own.
func (p pile) bales() []int { return slices.Clone(p[:p.height()]) }

// top returns the bale on top: 0 if there is none.
func (p pile) top() int {
	if high := p.height(); high > 0 {
		return p[high-1]
	}
	return 0
}

// state is where bales are: the pile of each stack, in order.
type state [api.MaxStacks]pile

// floor is a warehouse at work, whose stacks are valid, and whose moves can be.
type floor struct{ api.Warehouse }

// first returns the state before all moves.
func (f floor) first() state {
	var s state
	for at, x := range f.Stacks {
		copy(s[at][:], x.Bales)
	}
	return s
}

// on returns the state on a day.
func (f floor) on(day int) state {
	s := f.first()
	for _, m := range f.Moves {
		if m.Day <= day {
			s = f.behind(s, m)
		}
	}
	return s
}

// last returns the state behind all moves.
func (f floor) last() state { return f.on(api.MaxDays) }

// behind returns the state behind a move that can be.
func (f floor) behind(s state, m api.Move) state {
	for at, x := range f.Stacks {
		switch {
		case s[at].top() == m.Bale:
			s[at][s[at].height()-1] = 0
		case x.Id == m.To:
			s[at][s[at].height()] = m.Bale
		}
	}
	return s
}

// moves yields those that can be of bales on top, in the order of the stacks from which they go, then of those onto which: out of the house first.
func (f floor) moves(s state) iter.Seq[api.Move] {
	return func(yield func(api.Move) bool) {
		for from := range f.Stacks {
			bale := s[from].top()
			if bale == 0 {
				continue
			}
			if !yield(api.Move{Bale: bale}) {
				return
			}
		stacks:
			for to, x := range f.Stacks {
				if to == from || s[to].height() == api.MaxHigh {
					continue stacks
				}
				if !yield(api.Move{Bale: bale, To: x.Id}) {
					return
				}
			}
		}
	}
}

// allows reports whether a move can be behind all others.
func (f floor) allows(m api.Move) bool {
	s := f.last()
	if !slices.Contains(f.been(), m.Bale) {
		return slices.ContainsFunc(f.stacks(s), func(x api.Stack) bool { return x.Id == m.To && len(x.Bales) < api.MaxHigh })
	}
	// A bale that has gone out is on top of no stack.
	for x := range f.moves(s) {
		if x == (api.Move{Bale: m.Bale, To: m.To}) {
			return true
		}
	}
	return false
}

// been returns the bales that have been in the house, in increasing order.
func (f floor) been() []int {
	l := lists.Numbers(f.Moves, baleOf)
	for _, x := range f.Stacks {
		l = append(l, x.Bales...)
	}
	slices.Sort(l)
	return slices.Compact(l)
}

// there returns the bales that are in the house on a day.
func (f floor) there(day int) map[int]bool {
	there := map[int]bool{}
	for _, x := range f.Stacks {
		for _, bale := range x.Bales {
			there[bale] = true
		}
	}
	for _, m := range f.Moves {
		if m.Day > day {
			break
		}
		there[m.Bale] = true
		if m.To == 0 {
			delete(there, m.Bale)
		}
	}
	return there
}

// stacks returns them as they are in a state.
func (f floor) stacks(s state) []api.Stack {
	var l []api.Stack
	for at, x := range f.Stacks {
		l = append(l, api.Stack{Id: x.Id, Row: x.Row, Bales: s[at].bales()})
	}
	return l
}

// where returns the Id of the stack in which a bale is in a state, and its height: 0 and 0 if it is in none.
func (f floor) where(s state, bale int) (id, high int) {
	for at, x := range f.Stacks {
		for high := range api.MaxHigh {
			if s[at][high] == bale {
				return x.Id, high + 1
			}
		}
	}
	return 0, 0
}

// above returns the bales above one at last, from the top down: false if it is not in the house.
func (f floor) above(bale int) ([]int, bool) {
	for _, p := range f.last() {
		l := p.bales()
		if at := slices.Index(l, bale); at >= 0 {
			slices.Reverse(l)
			return l[:len(l)-1-at], true
		}
	}
	return nil, false
}

// room returns how many bales more there is room for at last.
func (f floor) room() int {
	return api.MaxHigh*len(f.Stacks) - len(f.there(api.MaxDays))
}

// held returns the bales of an owner that are in the house on a day, in increasing order.
func (f floor) held(owner, day int) []int {
	there := f.there(day)
	var l []int
	for _, x := range f.Owners {
		if x.Owner == owner && there[x.Bale] {
			l = append(l, x.Bale)
		}
	}
	return l
}
