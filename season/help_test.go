package season_test

import (
	"math/rand"
	"reflect"
	"slices"
	"testing"

	"middling/api"
	"middling/grade"
	"middling/paper"
	"middling/season"
	"middling/stack"
	"middling/testhelp"
)

func ints(l ...int) []int { return l }

func span(lo, hi int) api.Span { return api.Span{Lo: lo, Hi: hi} }

func act(verb uint8, nums ...int) api.Act { return api.Act{Verb: verb, Nums: nums} }

func lookOf(number, classer, bale, month, box, said int) api.Look {
	return api.Look{Number: number, Classer: classer, Bale: bale, Month: month, Box: box, Said: said}
}

func passOf(number, of, from, to, lo, hi int) api.Pass {
	return api.Pass{Number: number, Paper: of, From: from, To: to, When: span(lo, hi)}
}

func saleOf(number, seller, buyer, bales, price int) api.Sale {
	return api.Sale{Number: number, Seller: seller, Buyer: buyer, Bales: bales, Price: price}
}

func ownedBy(owner int, bales ...int) []api.Owned {
	var l []api.Owned
	for _, bale := range bales {
		l = append(l, api.Owned{Bale: bale, Owner: owner})
	}
	return l
}

// example is the season of the chapter's examples.
func example() api.Season {
	return api.Season{
		Desk: api.Desk{
			Room: api.Room{
				Months:  4,
				Step:    5,
				Ages:    []api.Span{{}, span(1, 4), span(2, 8), span(3, 12)},
				Boxes:   []api.Box{{Id: 1, Made: 0}, {Id: 2, Made: 1}},
				Matches: []api.Match{{Number: 1, Month: 2, A: 1, B: 2, By: span(3, 5)}},
			},
			Lean:     15,
			Bales:    ints(11, 12, 99),
			Classers: ints(1, 2, 3),
		},
		Chain: api.Chain{Houses: ints(1, 2, 3, 4)},
		House: api.Warehouse{
			Stacks: []api.Stack{{Id: 1, Row: 1, Bales: ints(11, 12, 13)}, {Id: 2, Row: 1, Bales: ints(21, 22)}, {Id: 3, Row: 2, Bales: ints(31)}},
			Owners: slices.Concat(ownedBy(1, 11, 12), ownedBy(2, 13, 21, 22), ownedBy(1, 31), ownedBy(2, 41)),
			Moves:  []api.Move{{Day: 2, Bale: 13, To: 3}, {Day: 4, Bale: 22}, {Day: 5, Bale: 41, To: 2}},
			Rain:   ints(1, 3, 6),
			Found:  []api.Found{{Number: 1, Bale: 13, Wet: true}, {Number: 2, Bale: 12}},
		},
		Papers: api.Papers{Days: 5, Papers: []api.Paper{{Id: 1, Bale: 11, Holder: 1}}},
	}
}

// changed is the season of the examples, but for something.
func changed(change func(s *api.Season)) api.Season {
	s := example()
	change(&s)
	return s
}

// bare is the season whose file the chapter tells: as little as there can be.
func bare() api.Season {
	return api.Season{
		Desk:   api.Desk{Room: api.Room{Months: 1, Ages: []api.Span{{}}}},
		House:  api.Warehouse{Stacks: []api.Stack{{Id: 1, Row: 1}}},
		Papers: api.Papers{Days: 1},
	}
}

// unjust has no truth of its desk: beside a box that is fresh a classer said two grades of one bale.
func unjust() api.Season {
	return changed(func(s *api.Season) {
		s.Desk.Looks = []api.Look{lookOf(1, 1, 11, 0, 1, 4), lookOf(3, 1, 11, 0, 1, 9)}
	})
}

// untrue has no truth of its papers: the house 3 passes on what it does not hold.
func untrue() api.Season {
	return changed(func(s *api.Season) { s.Papers.Passes = []api.Pass{passOf(1, 1, 3, 2, 0, 4)} })
}

// leaky has no truth of its house: a bale that lies below others in all rain was found wet.
func leaky() api.Season {
	return changed(func(s *api.Season) {
		s.House.Found = append(s.House.Found, api.Found{Number: 3, Bale: 11, Wet: true})
	})
}

// full has as many of all as there can be, but for owners; the desk, the papers and the house have truths.
func full() api.Season {
	var s api.Season
	r := &s.Desk.Room
	r.Months, r.Step = 12, 60
	for age := range 12 {
		r.Ages = append(r.Ages, span(age, 5*age))
	}
	r.Boxes = []api.Box{{Id: 1}, {Id: 70, Made: 3}, {Id: 8200, Made: 11}, {Id: 9999, Made: 6}}
	for n := range 8 {
		r.Matches = append(r.Matches, api.Match{Number: 9*n + 1, Month: 11, A: 1, B: 8200, By: span(-60, 60)})
	}
	s.Desk.Lean, s.Desk.Bales, s.Desk.Classers = 30, ints(1, 2, 3, 64, 8192, 9999), ints(1, 2, 63, 9999)
	for n := range 12 {
		s.Desk.Looks = append(s.Desk.Looks, lookOf(800*n+5, s.Desk.Classers[n/6], s.Desk.Bales[n%6], n, 1, 4))
	}
	s.Chain.Houses = ints(1, 2, 3, 4, 5, 9999)
	for n := range 10 {
		s.Chain.Sales = append(s.Chain.Sales, saleOf(1000*n+7, s.Chain.Houses[n%6], s.Chain.Houses[(n+1)%6], 1+n%9, 111111*n))
	}
	w := &s.House
	w.Stacks = []api.Stack{{Id: 1, Row: 1, Bales: ints(1, 2, 3)}, {Id: 2, Row: 5, Bales: ints(64, 5, 4)}, {Id: 63, Row: 2}, {Id: 64, Row: 3, Bales: ints(8192, 9999)}, {Id: 9999, Row: 4, Bales: ints(7)}}
	w.Owners = slices.Concat(ownedBy(3, 1, 2), ownedBy(9999, 3, 4, 5, 7, 64), ownedBy(64, 8192, 9999))
	for n := range 10 {
		w.Moves = append(w.Moves, api.Move{Day: 3*n + 3, Bale: 3, To: []int{63, 1}[n%2]})
	}
	for day := range 30 {
		w.Rain = append(w.Rain, day+1)
	}
	for n := range 8 {
		w.Found = append(w.Found, api.Found{Number: 100*n + 99, Bale: []int{3, 4}[n%2], Wet: n%2 == 0})
	}
	p := &s.Papers
	p.Days, p.Papers = 10, []api.Paper{{Id: 1, Bale: 3, Holder: 2}, {Id: 64, Bale: 3, Holder: 2}, {Id: 9999, Bale: 9999, Holder: 9999}}
	p.Passes = []api.Pass{passOf(1, 1, 2, 3, 0, 9), passOf(2, 64, 2, 3, 0, 9), passOf(3, 1, 3, 2, 0, 9), passOf(64, 64, 3, 5, 8, 9), passOf(65, 1, 2, 3, 0, 9), passOf(66, 1, 3, 2, 0, 9), passOf(67, 1, 2, 3, 0, 9), passOf(9999, 9999, 9999, 1, 9, 9)}
	for n := range 6 {
		p.Pledges = append(p.Pledges, api.Pledge{Number: 1500*n + 3, Paper: []int{1, 64}[n%2], By: 2 + n, Bank: 9999, From: span(n, 9), Until: span(0, n+1)})
	}
	return s
}

// behind is the season behind some lines, to all of which the reply is done.
func behind(t *testing.T, s api.Season, lines ...string) api.Season {
	t.Helper()
	s, replies, e := season.Play(s, lines)
	if e != api.OK || slices.ContainsFunc(replies, func(reply string) bool { return reply != "done" }) {
		t.Fatal(lines, replies, e)
	}
	return s
}

// same tells whether two values are, where nil lists and empty ones are the same.
func same[T any](a, b T) bool { return alike(reflect.ValueOf(a), reflect.ValueOf(b)) }

func alike(a, b reflect.Value) bool {
	switch a.Kind() {
	case reflect.Struct:
		for i := range a.NumField() {
			if !alike(a.Field(i), b.Field(i)) {
				return false
			}
		}
		return true
	case reflect.Slice:
		if a.Len() != b.Len() {
			return false
		}
		for i := range a.Len() {
			if !alike(a.Index(i), b.Index(i)) {
				return false
			}
		}
		return true
	}
	return a.Interface() == b.Interface()
}

// copied is a value in memory of its own, roomy one of which each list has capacity behind its end, whole one with all that is behind the ends of its lists.
func copied[T any](x T) T { return remade(reflect.ValueOf(x), 0, false).Interface().(T) }

func roomy[T any](x T) T { return remade(reflect.ValueOf(x), 5, false).Interface().(T) }

func whole[T any](x T) T { return remade(reflect.ValueOf(x), 0, true).Interface().(T) }

func remade(x reflect.Value, room int, all bool) reflect.Value {
	switch x.Kind() {
	case reflect.Struct:
		y := reflect.New(x.Type()).Elem()
		for i := range x.NumField() {
			y.Field(i).Set(remade(x.Field(i), room, all))
		}
		return y
	case reflect.Slice:
		if all {
			x = x.Slice(0, x.Cap())
		}
		y := reflect.MakeSlice(x.Type(), x.Len(), x.Len()+room)
		for i := range x.Len() {
			y.Index(i).Set(remade(x.Index(i), room, all))
		}
		return y
	}
	return x
}

// spoil writes over all memory of a value.
func spoil[T any](x T) { spoilt(reflect.ValueOf(x)) }

func spoilt(x reflect.Value) {
	switch x.Kind() {
	case reflect.Struct:
		for i := range x.NumField() {
			spoilt(x.Field(i))
		}
	case reflect.Slice:
		x = x.Slice(0, x.Cap())
		for i := range x.Len() {
			spoilt(x.Index(i))
		}
	case reflect.Int:
		if x.CanSet() {
			x.SetInt(77)
		}
	case reflect.Bool:
		if x.CanSet() {
			x.SetBool(!x.Bool())
		}
	case reflect.String:
		if x.CanSet() {
			x.SetString("spoilt")
		}
	}
}

// one returns one thing of a list by chance.
func one[T any](c *rand.Rand, l []T) T { return l[c.Intn(len(l))] }

// some returns things of a list by chance, in their order: from a least number of them to a greatest one, if there are so many.
func some[T any](c *rand.Rand, l []T, least, most int) []T {
	n := min(least+c.Intn(most-least+1), len(l))
	return testhelp.Chosen(l, testhelp.Sorted(c.Perm(len(l))[:n]))
}

// bales are those of a house by chance; of some of them it does not know at first.
func bales() []int { return ints(11, 12, 13, 14, 21, 22, 31, 41, 64, 9999) }

func anyHouse(c *rand.Rand) api.Warehouse {
	w := api.Warehouse{Owners: slices.Concat(ownedBy(1, 11, 12, 13), ownedBy(2, 14, 21, 22), ownedBy(3, 31, 41, 64, 9999)), Rain: some(c, ints(1, 2, 4, 7, 30), 0, 5)}
	left := bales()
	c.Shuffle(len(left), func(i, j int) { left[i], left[j] = left[j], left[i] })
	for _, id := range some(c, ints(1, 2, 3, 7, 9999), 2, 4) {
		n := min(c.Intn(api.MaxHigh+1), len(left))
		w.Stacks, left = append(w.Stacks, api.Stack{Id: id, Row: 1 + c.Intn(5), Bales: slices.Clone(left[:n])}), left[n:]
	}
	return w
}

func anyDesk(c *rand.Rand) api.Desk {
	d := api.Desk{Lean: c.Intn(25), Bales: some(c, bales(), 1, 5), Classers: some(c, ints(1, 2, 3, 5, 9999), 2, 4)}
	r := &d.Room
	r.Months, r.Step = 1+c.Intn(5), 3+c.Intn(5)
	least, more := c.Intn(4), c.Intn(4)
	for age := range r.Months {
		r.Ages = append(r.Ages, span(age*least, age*(least+more)))
	}
	for _, id := range some(c, ints(1, 2, 8, 9999), 1, 4) {
		r.Boxes = append(r.Boxes, api.Box{Id: id, Made: c.Intn(r.Months)})
	}
	if n := len(r.Boxes); n > 1 && c.Intn(2) == 0 {
		r.Matches = []api.Match{{Number: 1 + c.Intn(99), Month: r.Months - 1, A: r.Boxes[0].Id, B: r.Boxes[n-1].Id, By: span(-c.Intn(61), c.Intn(61))}}
	}
	return d
}

func anyPapers(c *rand.Rand) api.Papers {
	p := api.Papers{Days: 1 + c.Intn(7)}
	for _, id := range some(c, ints(1, 2, 5, 9999), 1, 3) {
		p.Papers = append(p.Papers, api.Paper{Id: id, Bale: one(c, bales()), Holder: 1 + c.Intn(4)})
	}
	for n := range c.Intn(3) {
		day := c.Intn(p.Days)
		p.Pledges = append(p.Pledges, api.Pledge{Number: n + 1, Paper: p.Papers[0].Id, By: 1 + c.Intn(4), Bank: 90, From: span(0, day), Until: span(day, p.Days-1)})
	}
	return p
}

// anyNumber is one by chance that few things have.
func anyNumber(c *rand.Rand) int { return one(c, ints(0, 1, 2, 9, 10, 9999, 10000, 1000000, 9999999)) }

// anyAct returns an act by chance, which is right, and which is often done.
func anyAct(c *rand.Rand, s api.Season) api.Act {
	a := api.Act{Verb: one(c, []uint8{1, 1, 1, 2, 3, 3, 3, 4, 5, 5, 6, 7, 8, 9})}
	switch number := 1 + c.Intn(14); a.Verb {
	case api.VerbLook:
		bale := one(c, append(s.Desk.Bales[:1:1], s.Desk.Bales...))
		a.Nums = ints(number, one(c, s.Desk.Classers), bale, c.Intn(s.Desk.Room.Months), one(c, s.Desk.Room.Boxes).Id, min(9, 2+bale%7+c.Intn(8)/6))
	case api.VerbSell:
		a.Nums = ints(number, one(c, s.Chain.Houses), one(c, s.Chain.Houses), 1+c.Intn(9), 100*c.Intn(9))
	case api.VerbMove:
		a.Nums = anyMove(c, s)
	case api.VerbFound:
		a.Nums = ints(number, one(c, bales()), c.Intn(2))
	case api.VerbPass:
		a.Nums = anyPass(c, s.Papers, number)
	case api.VerbStop:
		a.Nums = ints(1 + c.Intn(6))
	default:
		a.Nums = ints(one(c, append(written(s, a.Verb), number)))
	}
	if at := c.Intn(len(a.Nums)); c.Intn(12) == 0 && (a.Verb != api.VerbFound || at < 2) {
		a.Nums[at] = anyNumber(c)
	}
	return a
}

// written are the numbers of what one of the verbs can strike.
func written(s api.Season, verb uint8) []int {
	var l []int
	switch verb {
	case api.VerbUnlook:
		for _, x := range s.Desk.Looks {
			l = append(l, x.Number)
		}
	case api.VerbUnsell:
		for _, x := range s.Chain.Sales {
			l = append(l, x.Number)
		}
	case api.VerbUnpass:
		for _, x := range s.Papers.Passes {
			l = append(l, x.Number)
		}
	}
	return l
}

// anyMove returns the numbers of a move by chance: often of a bale that is on top, or that has not come in, or out of one that is decided.
func anyMove(c *rand.Rand, s api.Season) []int {
	day := 1
	if n := len(s.House.Moves); n > 0 {
		day = s.House.Moves[n-1].Day
	}
	day = min(30, day+c.Intn(3))
	l := bales()
	stacks, _ := stack.At(s.House, 30)
	for _, x := range stacks {
		if n := len(x.Bales); n > 0 {
			top := x.Bales[n-1]
			if decides(s.Desk, top) > 0 && c.Intn(2) == 0 {
				return ints(day, top, 0)
			}
			l = append(l, top, top)
		}
	}
	to := 0
	if c.Intn(3) > 0 {
		to = one(c, s.House.Stacks).Id
	}
	return ints(day, one(c, l), to)
}

// anyPass returns the numbers of a pass by chance: often from a house that may hold the paper.
func anyPass(c *rand.Rand, p api.Papers, number int) []int {
	id := one(c, p.Papers).Id
	l, _ := paper.Holder(p, id, p.Days-1)
	lo := c.Intn(p.Days)
	return ints(number, id, one(c, append(l, 1+c.Intn(6))), 1+c.Intn(6), lo, min(p.Days-1, lo+c.Intn(4)))
}

// anySeason returns a valid season by chance, in which some has been done; few have no truth of the desk, or of the papers.
func anySeason(c *rand.Rand) api.Season {
	s := api.Season{Desk: anyDesk(c), Chain: api.Chain{Houses: some(c, ints(1, 2, 3, 4, 5, 6), 2, 6)}, House: anyHouse(c), Papers: anyPapers(c)}
	for range c.Intn(50) {
		if y, _, e := told(s, anyAct(c, s)); e == api.OK {
			s = y
		}
	}
	if x := one(c, s.Desk.Bales); c.Intn(9) == 0 {
		for n, said := range ints(1, 9) {
			if d, e := grade.Put(s.Desk, lookOf(9998+n, s.Desk.Classers[0], x, s.Desk.Room.Months-1, s.Desk.Room.Boxes[0].Id, said)); e == api.OK {
				s.Desk = d
			}
		}
	}
	if c.Intn(9) == 0 {
		if p, e := paper.Put(s.Papers, passOf(9999, s.Papers.Papers[0].Id, 77, 78, 0, s.Papers.Days-1)); e == api.OK {
			s.Papers = p
		}
	}
	return s
}

// eachSeason runs a test for some seasons by chance.
func eachSeason(t *testing.T, n int, test func(s api.Season, c *rand.Rand) bool) {
	t.Helper()
	c := rand.New(rand.NewSource(12))
	for range n {
		s := anySeason(c)
		if e := season.Check(s); e != api.OK {
			t.Fatal(s, e)
		}
		if !test(s, c) {
			t.Fatal(s)
		}
	}
}
