package terms_test

import (
	"math/rand"
	"slices"

	"middling/api"
	"middling/terms"
)

func ints(l ...int) []int { return l }

func span(lo, hi int) api.Span { return api.Span{Lo: lo, Hi: hi} }

func class(grade, staple int) api.Class { return api.Class{Grade: grade, Staple: staple} }

// cotton is the terms of the chapter's examples, with another Fee.
func cotton(fee int) api.Terms {
	return api.Terms{
		Base:    class(4, 5),
		Price:   500,
		Worst:   6,
		Short:   4,
		Grades:  ints(60, 45, 20, 0, -25, -60, -100, -160, -240),
		Staples: ints(-90, -60, -40, -15, 0, 10, 25, 30, 30),
		Due:     span(8, 10),
		Bales:   5,
		Fee:     fee,
	}
}

func example() api.Terms { return cotton(12) }

// changed is the terms of the examples, but for something.
func changed(change func(t *api.Terms)) api.Terms {
	t := example()
	change(&t)
	return t
}

// broken is not valid: a grade brings more than the one before it.
func broken() api.Terms { return changed(func(t *api.Terms) { t.Grades[4] = 1 }) }

// flat is terms of which all classes have the same value, and may be delivered.
func flat(price int) api.Terms {
	return api.Terms{Base: class(1, 9), Price: price, Worst: 9, Short: 1, Grades: make([]int, 9), Staples: make([]int, 9), Bales: 20}
}

// day is the one of the chapter's examples, with another Price.
func day(price int) api.Day {
	return api.Day{Price: price, Grades: ints(70, 50, 22, 0, -40, -55, -90, -150, -200), Staples: ints(-80, -50, -30, -20, 0, 12, 30, 40, 40)}
}

func days(prices ...int) []api.Day {
	var l []api.Day
	for _, n := range prices {
		l = append(l, day(n))
	}
	return l
}

// short is a day on which there is no price of the last grade.
func short() api.Day {
	d := day(510)
	d.Grades = d.Grades[:8]
	return d
}

func same(a, b api.Terms) bool {
	return a.Base == b.Base && a.Price == b.Price && a.Worst == b.Worst && a.Short == b.Short && slices.Equal(a.Grades, b.Grades) && slices.Equal(a.Staples, b.Staples) && a.Due == b.Due && a.Bales == b.Bales && a.Fee == b.Fee
}

func copied(t api.Terms) api.Terms {
	t.Grades, t.Staples = slices.Clone(t.Grades), slices.Clone(t.Staples)
	return t
}

// classes are all classes: the better ones first, then the shorter ones.
func classes() []api.Class {
	var l []api.Class
	for grade := 1; grade <= api.MaxGrade; grade++ {
		for staple := 1; staple <= api.MaxStaple; staple++ {
			l = append(l, class(grade, staple))
		}
	}
	return l
}

// spans are all spans of numbers from 1 to 9.
func spans() []api.Span {
	var l []api.Span
	for lo := 1; lo <= 9; lo++ {
		for hi := lo; hi <= 9; hi++ {
			l = append(l, span(lo, hi))
		}
	}
	return l
}

// anySpan returns a span by chance of numbers from lo to hi.
func anySpan(c *rand.Rand, lo, hi int) api.Span {
	a, b := lo+c.Intn(hi-lo+1), lo+c.Intn(hi-lo+1)
	return span(min(a, b), max(a, b))
}

// anyTable returns nine numbers by chance that do not fall, and rise by at most step; the one of base is 0.
func anyTable(c *rand.Rand, base, step int) []int {
	l := make([]int, 9)
	for n := base; n < 9; n++ {
		l[n] = min(api.MaxStep, l[n-1]+c.Intn(step+1))
	}
	for n := base - 2; n >= 0; n-- {
		l[n] = max(-api.MaxStep, l[n+1]-c.Intn(step+1))
	}
	return l
}

// anyTerms returns valid terms by chance.
func anyTerms(c *rand.Rand) api.Terms {
	t := api.Terms{Base: class(1+c.Intn(9), 1+c.Intn(9)), Due: anySpan(c, 0, api.MaxMonth), Bales: 1 + c.Intn(api.MaxBales)}
	steps := ints(0, 1, 10, 60, 300)
	step := steps[c.Intn(len(steps))]
	t.Grades, t.Staples = anyTable(c, 10-t.Base.Grade, step), anyTable(c, t.Base.Staple, steps[c.Intn(len(steps))])
	slices.Reverse(t.Grades)
	t.Worst, t.Short = t.Base.Grade+c.Intn(10-t.Base.Grade), 1+c.Intn(t.Base.Staple)
	least := 1 - t.Grades[t.Worst-1] - t.Staples[t.Short-1]
	t.Price = min(api.MaxPence, least+c.Intn(ints(1, 100, api.MaxPence)[c.Intn(3)]))
	t.Fee = c.Intn(ints(1, step+1, 3*step+1, api.MaxFee+1)[c.Intn(4)])
	return t
}

// anyDay returns a valid day by chance, on which prices lie around those of terms, or do not.
func anyDay(c *rand.Rand, t api.Terms) api.Day {
	d := api.Day{Price: t.Price, Grades: slices.Clone(t.Grades), Staples: slices.Clone(t.Staples)}
	wide := 1 + c.Intn(200)*c.Intn(2)
	for _, l := range [][]int{d.Grades, d.Staples} {
		for i := range l {
			l[i] = max(-api.MaxStep, min(api.MaxStep, l[i]-wide/2+c.Intn(wide)))
		}
	}
	d.Price = min(api.MaxPence, max(d.Price, -slices.Min(d.Grades)-slices.Min(d.Staples))+c.Intn(50))
	return d
}

// anyDays returns a day for each month of terms.
func anyDays(c *rand.Rand, t api.Terms) []api.Day {
	var l []api.Day
	d := anyDay(c, t)
	for range t.Due.Hi - t.Due.Lo + 1 {
		x := d
		x.Price = min(api.MaxPence, x.Price+c.Intn(10))
		l = append(l, x)
	}
	return l
}

// eachTerms runs a test for the terms of the examples, and for some by chance.
func eachTerms(t interface{ Fatal(...any) }, n int, test func(y api.Terms, c *rand.Rand) bool) {
	c := rand.New(rand.NewSource(4))
	for i := range n {
		y := example()
		if i > 0 {
			y = anyTerms(c)
		}
		if e := terms.Check(y); e != api.OK {
			t.Fatal(y, e)
		}
		if !test(y, c) {
			t.Fatal(y)
		}
	}
}
