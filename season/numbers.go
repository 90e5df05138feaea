package season

import (
	"iter"

	"middling/api"
)

// visit is given the numbers of a season one by one, in the order of its file. It may change each one, and reports whether to go on.
type visit func(n *int) bool

// each reports whether to go on behind some numbers.
func (v visit) each(numbers ...*int) bool {
	for _, n := range numbers {
		if !v(n) {
			return false
		}
	}
	return true
}

// list goes through how many things a list has, and then these; it puts a new list in its place, in which they are as they were changed.
func list[T any](v visit, l *[]T, thing func(visit, *T) bool) bool {
	n := len(*l)
	// No list of a valid season has more things than there are Ids.
	if !v(&n) || n > api.MaxId {
		return false
	}
	var all []T
	for at := range n {
		var x T
		if at < len(*l) {
			x = (*l)[at]
		}
		if !thing(v, &x) {
			return false
		}
		all = append(all, x)
	}
	*l = all
	return true
}

func (v visit) season(s *api.Season) bool {
	return v.desk(&s.Desk) && v.chain(&s.Chain) && v.house(&s.House) && v.papers(&s.Papers)
}

func (v visit) desk(d *api.Desk) bool {
	return v.room(&d.Room) && v.each(&d.Lean) && list(v, &d.Bales, visit.number) && list(v, &d.Classers, visit.number) && list(v, &d.Looks, visit.look)
}

func (v visit) room(r *api.Room) bool {
	return v.each(&r.Months, &r.Step) && list(v, &r.Ages, visit.span) && list(v, &r.Boxes, visit.box) && list(v, &r.Matches, visit.match)
}

func (v visit) chain(c *api.Chain) bool {
	return list(v, &c.Houses, visit.number) && list(v, &c.Sales, visit.sale)
}

func (v visit) house(w *api.Warehouse) bool {
	return list(v, &w.Stacks, visit.stack) && list(v, &w.Owners, visit.owned) && list(v, &w.Moves, visit.move) && list(v, &w.Rain, visit.number) && list(v, &w.Found, visit.found)
}

func (v visit) papers(p *api.Papers) bool {
	return v.each(&p.Days) && list(v, &p.Papers, visit.paper) && list(v, &p.Passes, visit.pass) && list(v, &p.Pledges, visit.pledge)
}

func (v visit) number(n *int) bool { return v(n) }

func (v visit) span(s *api.Span) bool { return v.each(&s.Lo, &s.Hi) }

func (v visit) box(x *api.Box) bool { return v.each(&x.Id, &x.Made) }

func (v visit) match(x *api.Match) bool {
	return v.each(&x.Number, &x.Month, &x.A, &x.B) && v.span(&x.By)
}

func (v visit) look(x *api.Look) bool {
	return v.each(&x.Number, &x.Classer, &x.Bale, &x.Month, &x.Box, &x.Said)
}

func (v visit) sale(x *api.Sale) bool {
	return v.each(&x.Number, &x.Seller, &x.Buyer, &x.Bales, &x.Price)
}

func (v visit) stack(x *api.Stack) bool {
	return v.each(&x.Id, &x.Row) && list(v, &x.Bales, visit.number)
}

func (v visit) owned(x *api.Owned) bool { return v.each(&x.Bale, &x.Owner) }

func (v visit) move(x *api.Move) bool { return v.each(&x.Day, &x.Bale, &x.To) }

func (v visit) found(x *api.Found) bool {
	wet := 0
	if x.Wet {
		wet = 1
	}
	more := v.each(&x.Number, &x.Bale, &wet)
	x.Wet = wet == 1
	return more
}

func (v visit) paper(x *api.Paper) bool { return v.each(&x.Id, &x.Bale, &x.Holder) }

func (v visit) pass(x *api.Pass) bool {
	return v.each(&x.Number, &x.Paper, &x.From, &x.To) && v.span(&x.When)
}

func (v visit) pledge(x *api.Pledge) bool {
	return v.each(&x.Number, &x.Paper, &x.By, &x.Bank) && v.span(&x.From) && v.span(&x.Until)
}

// numbers yields those of a season, in the order of its file.
func numbers(s api.Season) iter.Seq[int] {
	return func(yield func(int) bool) {
		x := s
		visit(func(n *int) bool { return yield(*n) }).season(&x)
	}
}
