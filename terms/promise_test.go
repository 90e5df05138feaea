package terms_test

import (
	"math"
	"math/rand"
	"slices"
	"testing"

	"middling/api"
	"middling/terms"
)

func invoice(t api.Terms, c api.Class) (int, bool) {
	n, e := terms.Invoice(t, c)
	return n, e == api.OK
}

// invoices are those of all classes, 0 of those that may not be delivered.
func invoices(t api.Terms) []int {
	var l []int
	for _, c := range classes() {
		n, _ := invoice(t, c)
		l = append(l, n)
	}
	return l
}

// P4.9, N3: each invoice lies between what is told, and both ends come about.
func TestInvoiceIsBetween(t *testing.T) {
	eachTerms(t, 60, func(y api.Terms, c *rand.Rand) bool {
		for _, grades := range spans() {
			staples := anySpan(c, 1, 9)
			s, e := terms.Range(y, grades, staples)
			lo, hi := false, false
			for _, c := range classes() {
				n, ok := invoice(y, c)
				if !ok || !has(grades, c.Grade) || !has(staples, c.Staple) {
					continue
				}
				if !has(s, n) {
					return false
				}
				lo, hi = lo || n == s.Lo, hi || n == s.Hi
			}
			if lo != (e == api.OK) || hi != lo {
				return false
			}
		}
		return true
	})
}

// inner returns a span by chance within another one.
func inner(c *rand.Rand, s api.Span) api.Span { return anySpan(c, s.Lo, s.Hi) }

// P4.9: who knows more of a bale knows no less.
func TestMoreIsKnown(t *testing.T) {
	surer := 0
	eachTerms(t, 60, func(y api.Terms, c *rand.Rand) bool {
		month := min(api.MaxMonth, y.Due.Lo+c.Intn(2))
		for _, grades := range spans() {
			staples := anySpan(c, 1, 9)
			k, _ := terms.Known(y, grades, staples, month)
			n, m := inner(c, grades), inner(c, staples)
			more, e := terms.Known(y, n, m, month)
			if k != api.KnownOpen && more != k || e != api.OK {
				return false
			}
			if more != k {
				surer++
			}
			s, e := terms.Range(y, grades, staples)
			if u, f := terms.Range(y, n, m); f == api.OK && (e != api.OK || u.Lo < s.Lo || u.Hi > s.Hi) {
				return false
			}
		}
		return true
	})
	if surer < 100 {
		t.Error(surer)
	}
}

// P4.10: what one side gets the other one pays, but for the Fee, which who said the true grade never pays.
func TestNobodyGetsMore(t *testing.T) {
	eachTerms(t, 60, func(y api.Terms, _ *rand.Rand) bool {
		for _, c := range deliverable(y) {
			for grade := 1; grade <= api.MaxGrade; grade++ {
				gets, pays, e := terms.Pays(y, c.Grade, grade, c.Staple, true)
				if pays-gets != y.Fee || e != api.OK {
					return false
				}
				n, _ := invoice(y, c)
				if grade == c.Grade && (gets != n || pays != n+y.Fee) {
					return false
				}
				gets, pays, e = terms.Pays(y, c.Grade, grade, c.Staple, false)
				if pays != gets || gets != n || e != api.OK {
					return false
				}
			}
		}
		return true
	})
}

// lost returns what the receiver loses, by what it pays and the value of the bale that it has.
func lost(t api.Terms, said, grade, staple int, ask bool) int {
	_, pays, _ := terms.Pays(t, said, grade, staple, ask)
	n, ok := invoice(t, class(grade, staple))
	if ask && grade > said && !ok {
		return pays
	}
	if !ok {
		n = valueOf(t, class(grade, staple))
	}
	return pays - n
}

// P4.11: the receiver never loses more than is told; by the other choice it may lose as much.
func TestReceiverLoses(t *testing.T) {
	counts := map[bool]int{}
	eachTerms(t, 60, func(y api.Terms, c *rand.Rand) bool {
		for _, x := range deliverable(y) {
			grades := anySpan(c, 1, 9)
			ask, loss, e := terms.Ask(y, x.Grade, grades, x.Staple)
			if e != api.OK {
				return false
			}
			counts[ask]++
			other, comes := false, false
			for grade := grades.Lo; grade <= grades.Hi; grade++ {
				n := lost(y, x.Grade, grade, x.Staple, ask)
				if n > loss {
					return false
				}
				comes = comes || n == loss
				m := lost(y, x.Grade, grade, x.Staple, !ask)
				other = other || m > loss || m == loss && !ask
			}
			if !comes || !other {
				return false
			}
		}
		return true
	})
	if counts[true] < 100 || counts[false] < 100 {
		t.Error(counts)
	}
}

// surely returns what who delivers gets at least if it says a grade, by what the receiver is told to do.
func surely(t api.Terms, said int, grades api.Span, staple int) int {
	ask, _, _ := terms.Ask(t, said, grades, staple)
	least := math.MaxInt
	for grade := grades.Lo; grade <= grades.Hi; grade++ {
		gets, _, _ := terms.Pays(t, said, grade, staple, ask)
		least = min(least, gets)
	}
	return least
}

// P4.12: who says what is told gets what is told, by no other grade more, nor by a better one than the worst more than the Fee besides.
func TestWhatIsSaid(t *testing.T) {
	eachTerms(t, 60, func(y api.Terms, _ *rand.Rand) bool {
		for _, grades := range spans() {
			for staple := y.Short; staple <= api.MaxStaple; staple++ {
				said, gets, e := terms.Say(y, grades, staple)
				if e != api.OK || surely(y, said, grades, staple) != gets {
					return false
				}
				// A bale that may not be delivered is worth nothing to who delivers it.
				worst := max(0, valueOf(y, class(grades.Hi, staple)))
				for by := 1; by <= y.Worst; by++ {
					n := surely(y, by, grades, staple)
					if n > gets || n == gets && by < said || by < grades.Hi && n > worst+y.Fee {
						return false
					}
				}
			}
		}
		return true
	})
}

// P4.13, N3: no class is cheaper than the cheapest one, and each one is dearer by what is told.
func TestNothingIsCheaper(t *testing.T) {
	eachTerms(t, 150, func(y api.Terms, c *rand.Rand) bool {
		d := anyDay(c, y)
		best, least, e := terms.Cheapest(y, d)
		if e != api.OK || !slices.Contains(deliverable(y), best) {
			return false
		}
		first := true
		for _, c := range deliverable(y) {
			n, e := terms.Dearer(y, d, c)
			v, _ := invoice(y, c)
			if e != api.OK || n < 0 || d.Price+d.Grades[c.Grade-1]+d.Staples[c.Staple-1]-v != least+n {
				return false
			}
			// Classes come in order: the first one that is as cheap is the one that is told.
			if n == 0 && (c == best) != first {
				return false
			}
			first = first && n > 0
		}
		return !first
	})
}

// P4.13: in no month is the cheapest class cheaper than in the one that is told, before it in none as cheap.
func TestNoMonthIsCheaper(t *testing.T) {
	eachTerms(t, 150, func(y api.Terms, c *rand.Rand) bool {
		l := anyDays(c, y)
		month, best, least, e := terms.Month(y, l)
		if e != api.OK || !has(y.Due, month) {
			return false
		}
		for i, d := range l {
			x, n, _ := terms.Cheapest(y, d)
			at := y.Due.Lo + i
			if n < least || n == least && at < month || at == month && (x != best || n != least) {
				return false
			}
		}
		return true
	})
}

// P4.14: a better grade, or a longer staple, never brings less, and may be delivered wherever another one may.
func TestBetterBringsMore(t *testing.T) {
	eachTerms(t, 150, func(y api.Terms, c *rand.Rand) bool {
		month := c.Intn(api.MaxMonth + 1)
		for _, x := range classes() {
			is, _ := terms.Allows(y, x, month)
			n, ok := invoice(y, x)
			for _, better := range []api.Class{class(max(1, x.Grade-1), x.Staple), class(x.Grade, min(9, x.Staple+1))} {
				also, _ := terms.Allows(y, better, month)
				m, too := invoice(y, better)
				if is && !also || ok && (!too || m < n) {
					return false
				}
			}
		}
		return true
	})
}

// P4.15: from another base all invoices are the same, and the terms as they were from the old one again.
func TestOtherBase(t *testing.T) {
	counts := map[api.Errno]int{}
	eachTerms(t, 150, func(y api.Terms, c *rand.Rand) bool {
		l := deliverable(y)
		x := l[c.Intn(len(l))]
		other, e := terms.Rebase(y, x)
		counts[e]++
		if e != api.OK {
			return e == api.ErrTerms && !canBeBase(y, x)
		}
		again, f := terms.Rebase(other, y.Base)
		if f != api.OK || !same(again, y) || terms.Check(other) != api.OK || other.Base != x {
			return false
		}
		other.Base, other.Price, other.Grades, other.Staples = y.Base, y.Price, y.Grades, y.Staples
		if !same(other, y) {
			return false
		}
		other, _ = terms.Rebase(y, x)
		return slices.Equal(invoices(other), invoices(y)) && valuesAreSame(other, y)
	})
	if counts[api.OK] < 100 || counts[api.ErrTerms] < 5 {
		t.Error(counts)
	}
}

// canBeBase tells whether the numbers are not too great if they are told from a class.
func canBeBase(t api.Terms, c api.Class) bool {
	for _, n := range t.Grades {
		if n -= t.Grades[c.Grade-1]; n < -api.MaxStep || n > api.MaxStep {
			return false
		}
	}
	for _, n := range t.Staples {
		if n -= t.Staples[c.Staple-1]; n < -api.MaxStep || n > api.MaxStep {
			return false
		}
	}
	return valueOf(t, c) <= api.MaxPence
}

// valuesAreSame also tells of classes that may not be delivered.
func valuesAreSame(a, b api.Terms) bool {
	return !slices.ContainsFunc(classes(), func(c api.Class) bool { return valueOf(a, c) != valueOf(b, c) })
}

// P4.16, N3: joined and split, terms are for as many bales together, at the same invoices.
func TestAsManyBales(t *testing.T) {
	eachTerms(t, 150, func(y api.Terms, _ *rand.Rand) bool {
		for n := range y.Bales + 1 {
			a, b, e := terms.Split(y, n)
			if n == 0 || n == y.Bales {
				if e != api.ErrArg {
					return false
				}
				continue
			}
			both, f := terms.Join(a, b)
			turned, g := terms.Join(b, a)
			if e != api.OK || f != api.OK || g != api.OK || a.Bales != n || a.Bales+b.Bales != y.Bales || !same(both, y) || !same(turned, y) {
				return false
			}
			if !slices.Equal(invoices(a), invoices(y)) || !slices.Equal(invoices(b), invoices(y)) {
				return false
			}
		}
		twice, e := terms.Join(y, y)
		if e == api.ErrFull {
			return y.Bales > api.MaxBales/2
		}
		half, rest, f := terms.Split(twice, y.Bales)
		return e == api.OK && f == api.OK && same(half, y) && same(rest, y)
	})
}

// P4.17: what some bales come to is what each one comes to.
func TestTotalIsOfEach(t *testing.T) {
	some := 0
	eachTerms(t, 300, func(y api.Terms, c *rand.Rand) bool {
		var l []api.Class
		for range c.Intn(y.Bales + 1) {
			l = append(l, class(1+c.Intn(9), 1+c.Intn(9)))
		}
		month := y.Due.Hi
		sum := 0
		var out []int
		for i, c := range l {
			n, ok := invoice(y, c)
			sum += n
			if !ok {
				out = append(out, i)
			}
			if is, _ := terms.Allows(y, c, month); is != ok {
				return false
			}
			alone, refused, e := terms.Total(y, month, l[i:i+1])
			if alone != n || (len(refused) == 0) != ok || e != api.OK {
				return false
			}
		}
		some += len(out)
		n, refused, e := terms.Total(y, month, l)
		return n == sum && slices.Equal(refused, out) && e == api.OK
	})
	if some < 300 {
		t.Error(some)
	}
}

// P4.15, P4.8: with another number for a grade, all else is as it was.
func TestStepIsOfOneGrade(t *testing.T) {
	counts := map[api.Errno]int{}
	eachTerms(t, 300, func(y api.Terms, c *rand.Rand) bool {
		grade, pence := 1+c.Intn(9), c.Intn(301)-150
		want := copied(y)
		want.Grades[grade-1] = pence
		z, e := terms.Step(y, grade, pence)
		counts[e]++
		if terms.Check(want) != api.OK {
			return e == api.ErrTerms && same(z, api.Terms{})
		}
		return e == api.OK && same(z, want)
	})
	if counts[api.OK] < 10 || counts[api.ErrTerms] < 100 {
		t.Error(counts)
	}
}

// P1, R5, R7: each call ends with an answer, whatever its arguments are.
func TestAnyValue(t *testing.T) {
	odd := ints(math.MinInt, math.MinInt+1, -1001, -1000, -1, 0, 1, 2, 4, 5, 9, 10, 60, 500, 1000, 1000000, math.MaxInt-1, math.MaxInt)
	c := rand.New(rand.NewSource(6))
	some := func() int { return odd[c.Intn(len(odd))] }
	table := func() []int {
		l := slices.Repeat(ints(some()), c.Intn(12))
		if len(l) > 0 {
			l[c.Intn(len(l))] = some()
		}
		return l
	}
	for range 5000 {
		y, d := example(), day(510)
		switch c.Intn(6) {
		case 0:
			y = api.Terms{Base: class(some(), some()), Price: some(), Worst: some(), Short: some(), Grades: table(), Staples: table(), Due: span(some(), some()), Bales: some(), Fee: some()}
		case 1:
			y.Base, y.Worst, y.Short = class(some(), some()), some(), some()
		case 2:
			y.Grades, y.Staples = table(), table()
		case 3:
			y.Price, y.Due, y.Bales, y.Fee = some(), span(some(), some()), some(), some()
		}
		if c.Intn(2) == 0 {
			d = api.Day{Price: some(), Grades: table(), Staples: table()}
		}
		x := asks{some(), some(), some(), span(some(), some()), span(some(), some()), some(), d}
		for _, c := range calls() {
			if is, e := c.do(y, x); e != api.OK && !is {
				t.Fatal(c.name, y, x, e)
			}
		}
		terms.Step(y, some(), some())
		terms.Split(y, some())
		terms.Join(y, example())
		terms.Month(y, slices.Repeat([]api.Day{d}, c.Intn(5)))
		terms.Total(y, some(), slices.Repeat([]api.Class{x.class()}, c.Intn(25)))
	}
}
