package deliver_test

import (
	"math/rand"
	"slices"

	"middling/api"
	"middling/deliver"
)

func ints(l ...int) []int { return l }

func span(lo, hi int) api.Span { return api.Span{Lo: lo, Hi: hi} }

// deal is a contract on the tables of the chapter's examples, with the base 4, 5.
func deal(id, price, worst, short, bales int) api.Deal {
	return api.Deal{Id: id, Terms: api.Terms{
		Base:    api.Class{Grade: 4, Staple: 5},
		Price:   price,
		Worst:   worst,
		Short:   short,
		Grades:  ints(30, 20, 10, 0, -15, -40, -80, -100, -120),
		Staples: ints(-60, -40, -20, -10, 0, 15, 30, 40, 50),
		Due:     span(3, 4),
		Bales:   bales,
	}}
}

// flat is a contract by which all classes have the same value.
func flat(id, price, worst, bales int) api.Deal {
	d := deal(id, price, worst, 1, bales)
	d.Terms.Grades, d.Terms.Staples = make([]int, 9), make([]int, 9)
	return d
}

func ware(id, lo, hi, staple, pence int) api.Ware {
	return api.Ware{Id: id, Grades: span(lo, hi), Staples: span(staple, staple), Pence: pence}
}

// example is the yard of the chapter's examples, with some Bales in its deals.
func example(one, two int) api.Yard {
	return api.Yard{
		Month: 3,
		Deals: []api.Deal{deal(1, 1000, 6, 4, one), deal(2, 990, 5, 5, two)},
		Wares: []api.Ware{ware(10, 4, 4, 5, 1005), ware(20, 5, 6, 5, 950), ware(30, 6, 7, 4, 900)},
	}
}

// changed is the yard of the examples, but for something.
func changed(change func(y *api.Yard)) api.Yard {
	y := example(1, 1)
	change(&y)
	return y
}

// broken is not valid: one Id is there twice.
func broken() api.Yard { return changed(func(y *api.Yard) { y.Wares[1].Id = 10 }) }

// full has as many deals and wares as there can be.
func full() api.Yard {
	y := example(1, 1)
	y.Deals = append(y.Deals, flat(5, 700, 6, 2))
	y.Wares = append(y.Wares, ware(40, 1, 1, 1, 0), ware(50, 9, 9, 9, 0), ware(60, 3, 8, 6, 400))
	return y
}

// even has deals of some Bales, by which all that is not worse than the grade 8 brings 1000, and wares of the grade 5.
func even(bales []int, pence ...int) api.Yard {
	y := api.Yard{Month: 3}
	for i, n := range bales {
		y.Deals = append(y.Deals, flat(3+2*i, 1000, 8, n))
	}
	for i, n := range pence {
		y.Wares = append(y.Wares, ware(10*i+10, 5, 5, 5, n))
	}
	return y
}

func sameDeal(a, b api.Deal) bool {
	t, u := a.Terms, b.Terms
	return a.Id == b.Id && t.Base == u.Base && t.Price == u.Price && t.Worst == u.Worst && t.Short == u.Short && slices.Equal(t.Grades, u.Grades) && slices.Equal(t.Staples, u.Staples) && t.Due == u.Due && t.Bales == u.Bales && t.Fee == u.Fee
}

func same(a, b api.Yard) bool {
	return a.Month == b.Month && slices.EqualFunc(a.Deals, b.Deals, sameDeal) && slices.Equal(a.Wares, b.Wares)
}

func copied(y api.Yard) api.Yard {
	y.Deals, y.Wares = slices.Clone(y.Deals), slices.Clone(y.Wares)
	for i, d := range y.Deals {
		y.Deals[i].Terms.Grades, y.Deals[i].Terms.Staples = slices.Clone(d.Terms.Grades), slices.Clone(d.Terms.Staples)
	}
	return y
}

func wareIds(y api.Yard) []int {
	var l []int
	for _, x := range y.Wares {
		l = append(l, x.Id)
	}
	return l
}

func dealIds(y api.Yard) []int {
	var l []int
	for _, d := range y.Deals {
		l = append(l, d.Id)
	}
	return l
}

// places are all that a ware can be told to do: to be kept, then to go to one of the deals.
func places(y api.Yard) []int { return append(ints(0), dealIds(y)...) }

// anyId returns an Id by chance that is greater than the one before it.
func anyId(c *rand.Rand, last int) int { return last + 1 + c.Intn(3) }

// one returns one of some numbers by chance.
func one(c *rand.Rand, l ...int) int { return l[c.Intn(len(l))] }

// anyDeal returns a valid deal by chance; of eight one is due in another month.
func anyDeal(c *rand.Rand, id int) api.Deal {
	d := deal(id, one(c, 990, 1000, 1000, 1010, 999999), 4+c.Intn(6), 1+c.Intn(5), one(c, 1, 1, 1, 2, 2, 3, 20))
	if c.Intn(3) == 0 {
		d.Terms.Grades, d.Terms.Staples = make([]int, 9), make([]int, 9)
	}
	if c.Intn(8) == 0 {
		d.Terms.Due = span(5, 60)
	}
	return d
}

// anyWare returns a valid ware by chance, which is like other ones often.
func anyWare(c *rand.Rand, id int) api.Ware {
	grade, staple := one(c, 3, 4, 5, 5, 6, 7, 9), one(c, 1, 3, 4, 5, 5, 5, 6)
	x := api.Ware{Id: id, Grades: span(grade, min(api.MaxGrade, grade+c.Intn(3))), Staples: span(staple, staple+c.Intn(2)*c.Intn(3))}
	x.Pence = one(c, 0, 900, 950, 1000, 1000, 1000, 1010, 1000000)
	return x
}

// anyYard returns a valid yard by chance, of at most so many wares.
func anyYard(c *rand.Rand, wares int) api.Yard {
	y := api.Yard{Month: 3 + c.Intn(2)}
	id := 0
	for range one(c, 0, 1, 2, 2, 3, 3, 3, 3) {
		id = anyId(c, id)
		y.Deals = append(y.Deals, anyDeal(c, id))
	}
	id = 0
	for range wares - c.Intn(wares+1)*c.Intn(2) {
		id = anyId(c, id)
		x := anyWare(c, id)
		if len(y.Wares) > 0 && c.Intn(3) == 0 {
			x = y.Wares[c.Intn(len(y.Wares))]
			x.Id = id
		}
		y.Wares = append(y.Wares, x)
	}
	return y
}

// eachYard runs a test for the yard of the examples, and for some by chance, of at most so many wares.
func eachYard(t interface{ Fatal(...any) }, n, wares int, test func(y api.Yard, c *rand.Rand) bool) {
	c := rand.New(rand.NewSource(5))
	for i := range n {
		y := example(1, 1)
		if i > 0 {
			y = anyYard(c, wares)
		}
		if e := deliver.Check(y); e != api.OK {
			t.Fatal(y, e)
		}
		if !test(y, c) {
			t.Fatal(y)
		}
	}
}
