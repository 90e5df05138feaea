package chain_test

import (
	"math/rand"
	"slices"

	"middling/api"
	"middling/chain"
)

func ints(l ...int) []int { return l }

func span(lo, hi int) api.Span { return api.Span{Lo: lo, Hi: hi} }

func sale(number, seller, buyer, bales, price int) api.Sale {
	return api.Sale{Number: number, Seller: seller, Buyer: buyer, Bales: bales, Price: price}
}

func handed(from, to, bales int) api.Handed { return api.Handed{From: from, To: to, Bales: bales} }

// example is the chain of the chapter's examples, with sales more.
func example(more ...api.Sale) api.Chain {
	return api.Chain{
		Houses: ints(1, 2, 3, 4),
		Sales:  append([]api.Sale{sale(1, 1, 2, 5, 500), sale(2, 2, 3, 4, 510), sale(3, 3, 1, 3, 520), sale(4, 2, 4, 2, 505), sale(5, 1, 3, 2, 515)}, more...),
	}
}

// changed is the chain of the examples, but for something.
func changed(change func(c *api.Chain)) api.Chain {
	c := example()
	change(&c)
	return c
}

// broken is not valid: one Number is there twice.
func broken() api.Chain { return changed(func(c *api.Chain) { c.Sales[1].Number = 1 }) }

// simple has houses from 1 on, and between them sales by seller, buyer and Bales, at 100 each.
func simple(houses int, l ...[3]int) api.Chain {
	var c api.Chain
	for i := range houses {
		c.Houses = append(c.Houses, i+1)
	}
	for i, x := range l {
		c.Sales = append(c.Sales, sale(i+1, x[0], x[1], x[2], 100))
	}
	return c
}

// full has as many houses and sales as there can be.
func full() api.Chain {
	c := example(sale(10, 5, 6, 9, 0), sale(20, 6, 5, 4, 1000000), sale(30, 2, 5, 1, 500), sale(40, 6, 3, 8, 505), sale(9999, 4, 1, 1, 510))
	c.Houses = ints(1, 2, 3, 4, 5, 6)
	return c
}

func same(a, b api.Chain) bool {
	return slices.Equal(a.Houses, b.Houses) && slices.Equal(a.Sales, b.Sales)
}

func copied(c api.Chain) api.Chain {
	return api.Chain{Houses: slices.Clone(c.Houses), Sales: slices.Clone(c.Sales)}
}

func numbersOf(c api.Chain) []int {
	var l []int
	for _, s := range c.Sales {
		l = append(l, s.Number)
	}
	return l
}

// size is of chains by chance: how many houses and sales these have at most, and how many bales a sale has.
type size struct{ houses, sales, bales int }

func small() size { return size{4, 5, 3} }

func large() size { return size{api.MaxHouses, api.MaxSales, api.MaxSold} }

// anySale returns a valid sale by chance between two of some houses.
func anySale(r *rand.Rand, houses []int, number, bales int) api.Sale {
	at := r.Perm(len(houses))
	prices := ints(0, 90, 100, 100, 105, 110, 1000000)
	return sale(number, houses[at[0]], houses[at[1]], 1+r.Intn(bales), prices[r.Intn(len(prices))])
}

// anyChain returns a valid chain by chance; many have two houses at least, and as many sales as there may be.
func anyChain(r *rand.Rand, most size) api.Chain {
	var c api.Chain
	id := 0
	for range most.houses - r.Intn(most.houses+1)*r.Intn(2) {
		id += 1 + r.Intn(3)
		c.Houses = append(c.Houses, id)
	}
	if len(c.Houses) < 2 {
		return c
	}
	number := 0
	for range most.sales - r.Intn(most.sales+1)*r.Intn(2) {
		number += 1 + r.Intn(3)
		c.Sales = append(c.Sales, anySale(r, c.Houses, number, most.bales))
	}
	return c
}

// eachChain runs a test for some chains by chance.
func eachChain(t interface{ Fatal(...any) }, n int, most size, test func(c api.Chain, r *rand.Rand) bool) {
	r := rand.New(rand.NewSource(6))
	for range n {
		c := anyChain(r, most)
		if e := chain.Check(c); e != api.OK {
			t.Fatal(c, e)
		}
		if !test(c, r) {
			t.Fatal(c)
		}
	}
}

// anyPrices returns a span of prices by chance, near to those of sales.
func anyPrices(r *rand.Rand) api.Span {
	lo := 85 + r.Intn(30)
	return span(lo, lo+r.Intn(12))
}
