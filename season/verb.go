package season

import (
	"middling/api"
	"middling/chain"
	"middling/grade"
	"middling/lists"
	"middling/paper"
	"middling/stack"
)

// parts tells of each part of a season, by its number, whether it is touched.
type parts [api.PartPapers + 1]bool

// partsOf returns the parts with these numbers.
func partsOf(numbers ...int) parts {
	var p parts
	for _, n := range numbers {
		p[n] = true
	}
	return p
}

// has reports whether a part is touched.
func (p parts) has(part int) bool { return p[part] }

// both returns the parts that others have, too.
func (p parts) both(others parts) parts {
	for part := range p {
		p[part] = p[part] && others[part]
	}
	return p
}

// those returns the numbers of the parts of which something is so, in increasing order.
func those(is func(part int) bool) []int {
	var l []int
	for part := range api.PartPapers + 1 {
		if is(part) {
			l = append(l, part)
		}
	}
	return l
}

// rule is one of the house, of the season behind an act with some Nums.
type rule = lists.Question[clerk, []int]

// verb is what acts do: the word of their lines, how many Nums they have, the part by which they are done, and how, the rules for them, and the parts that they touch.
type verb struct {
	word    string
	nums    int
	part    int
	do      func(c *clerk, nums []int) api.Errno
	rules   []rule
	touches parts
}

// verbs returns all, each one in the place of its number.
func verbs() [api.VerbStop + 1]verb {
	return [api.VerbStop + 1]verb{
		api.VerbLook:   {"look", 6, api.PartDesk, look, []rule{{So: clerk.wasHere, E: api.ErrStrange}, {So: clerk.isJust, E: api.ErrUnjust}}, partsOf(api.PartDesk, api.PartHouse)},
		api.VerbSell:   {"sell", 5, api.PartChain, sell, nil, partsOf(api.PartChain)},
		api.VerbMove:   {"move", 3, api.PartHouse, move, []rule{{So: clerk.isDecided, E: api.ErrUndecided}}, partsOf(api.PartDesk, api.PartHouse)},
		api.VerbFound:  {"found", 3, api.PartHouse, find, nil, partsOf(api.PartHouse)},
		api.VerbPass:   {"pass", 6, api.PartPapers, pass, []rule{{So: clerk.isToHouse, E: api.ErrStrange}, {So: clerk.isTrue, E: api.ErrUnjust}}, partsOf(api.PartPapers, api.PartChain)},
		api.VerbUnlook: {"unlook", 1, api.PartDesk, unlook, nil, partsOf(api.PartDesk)},
		api.VerbUnsell: {"unsell", 1, api.PartChain, unsell, nil, partsOf(api.PartChain)},
		api.VerbUnpass: {"unpass", 1, api.PartPapers, unpass, nil, partsOf(api.PartPapers)},
		api.VerbStop:   {"stop", 1, api.PartChain, stop, []rule{{So: clerk.isFree, E: api.ErrHolder}}, partsOf(api.PartPapers, api.PartChain)},
	}
}

// verbOf returns the verb of an act that has one.
func verbOf(a api.Act) verb { return verbs()[a.Verb] }

func look(c *clerk, n []int) (e api.Errno) {
	c.Desk, e = grade.Put(c.Desk, api.Look{Number: n[0], Classer: n[1], Bale: n[2], Month: n[3], Box: n[4], Said: n[5]})
	return e
}

func sell(c *clerk, n []int) (e api.Errno) {
	c.Chain, e = chain.Put(c.Chain, api.Sale{Number: n[0], Seller: n[1], Buyer: n[2], Bales: n[3], Price: n[4]})
	return e
}

func move(c *clerk, n []int) (e api.Errno) {
	c.House, e = stack.Do(c.House, api.Move{Day: n[0], Bale: n[1], To: n[2]})
	return e
}

func find(c *clerk, n []int) (e api.Errno) {
	c.House, e = stack.Find(c.House, api.Found{Number: n[0], Bale: n[1], Wet: n[2] == 1})
	return e
}

func pass(c *clerk, n []int) (e api.Errno) {
	c.Papers, e = paper.Put(c.Papers, api.Pass{Number: n[0], Paper: n[1], From: n[2], To: n[3], When: api.Span{Lo: n[4], Hi: n[5]}})
	return e
}

func unlook(c *clerk, n []int) (e api.Errno) {
	c.Desk, e = grade.Strike(c.Desk, n)
	return e
}

func unsell(c *clerk, n []int) (e api.Errno) {
	c.Chain, e = chain.Strike(c.Chain, n)
	return e
}

func unpass(c *clerk, n []int) (e api.Errno) {
	c.Papers, e = paper.Strike(c.Papers, n)
	return e
}

func stop(c *clerk, n []int) (e api.Errno) {
	c.Chain, e = chain.Stop(c.Chain, n[0])
	return e
}
