package deliver

import (
	"iter"
	"slices"

	"middling/api"
	"middling/lists"
	"middling/terms"
)

// value is how many wares a plan delivers, how many of these are at a risk, and what they cost together.
type value struct{ bales, risks, pence int }

func (v value) plus(w value) value {
	return value{v.bales + w.bales, v.risks + w.risks, v.pence + w.pence}
}

// weight returns what a plan of this value weighs.
// The costs of no two plans differ by as much as a risk weighs, nor their risks and costs together by as much as a bale: plans that weigh the same have the same value.
func (v value) weight() int { return api.PlanBale*v.bales - api.PlanRisk*v.risks - v.pence }

// known tells whether a ware may go to a deal, if it adds this there.
func (v value) known() uint8 { return lists.Known(v.bales > 0, v.bales == 0 || v.risks > 0) }

// table is a valid yard at work.
type table struct {
	api.Yard
	// adds is the value of a plan by which one ware goes to one deal, by their indexes: nothing if it may not go there.
	adds [api.MaxWares][api.MaxDeals]value
	// kept is what the best plans add from states on that were asked for.
	kept map[state]value
}

// lay returns the table of a yard.
func lay(y api.Yard) table {
	t := table{Yard: y, kept: map[state]value{}}
	for j, d := range y.Deals {
	wares:
		for i, x := range y.Wares {
			v := value{bales: 1}
			switch known, _ := terms.Known(d.Terms, x.Grades, x.Staples, y.Month); known {
			case api.KnownNo:
				continue wares
			case api.KnownOpen:
				v.risks = 1
			}
			invoices, _ := terms.Range(d.Terms, x.Grades, x.Staples)
			v.pence = x.Pence - invoices.Lo
			t.adds[i][j] = v
		}
	}
	return t
}

// may reports whether a ware may go to a deal.
func (t table) may(i, j int) bool { return t.adds[i][j] != value{} }

// without returns the table as if a ware were not there: it may go nowhere.
func (t table) without(i int) table {
	t.adds[i], t.kept = [api.MaxDeals]value{}, map[state]value{}
	return t
}

// state is the index of the ware that is next, and behind it how many Bales each deal still wants.
type state [1 + api.MaxDeals]int

// start returns the state in which no ware has gone anywhere.
func (t table) start() state {
	var s state
	for j, d := range t.Deals {
		s[1+j] = d.Terms.Bales
	}
	return s
}

// step is what the ware that is next does: the Id of the deal to which it goes, or 0, what this adds, and the state after it.
type step struct {
	deal int
	adds value
	to   state
}

// steps yields all that the ware that is next can do, if there is one: to be kept, then to go to a deal, in the order of their Ids.
func (t table) steps(s state) iter.Seq[step] {
	return func(yield func(step) bool) {
		i, to := s[0], s
		if i == len(t.Wares) {
			return
		}
		to[0]++
		if !yield(step{to: to}) {
			return
		}
		for j, d := range t.Deals {
			if s[1+j] == 0 || !t.may(i, j) {
				continue
			}
			gone := to
			gone[1+j]--
			if !yield(step{d.Id, t.adds[i][j], gone}) {
				return
			}
		}
	}
}

// stepTo returns the step by which the ware that is next goes to a deal, or is kept (0): false if there is none.
func (t table) stepTo(s state, deal int) (step, bool) {
	for x := range t.steps(s) {
		if x.deal == deal {
			return x, true
		}
	}
	return step{}, false
}

// follow returns the value of a plan: false unless it is an allowed one.
func (t table) follow(plan []int) (value, bool) {
	if len(plan) != len(t.Wares) {
		return value{}, false
	}
	var v value
	s := t.start()
	for _, deal := range plan {
		x, ok := t.stepTo(s, deal)
		if !ok {
			return value{}, false
		}
		v, s = v.plus(x.adds), x.to
	}
	return v, true
}

// judged returns the value of a plan that is allowed.
func (t table) judged(plan []int) value {
	v, _ := t.follow(plan)
	return v
}

// ware returns the index of a ware.
func (t table) ware(id int) int { return slices.Index(lists.Numbers(t.Wares, idOfWare), id) }

// deal returns the index of a deal.
func (t table) deal(id int) int { return slices.Index(lists.Numbers(t.Deals, idOfDeal), id) }
