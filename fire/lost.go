package fire

import (
	"maps"
	"slices"

	"middling/api"
	"middling/lists"
	"middling/paper"
)

// places returns where among the stacks each bale is on the Day.
func (s scene) places() map[int]int {
	places := map[int]int{}
	for at, x := range s.stacks {
		for _, bale := range x.Bales {
			places[bale] = at
		}
	}
	return places
}

// lost returns the bales that were lost in a minute or before it in each truth, and in some, in increasing order.
func (s scene) lost(minute int) (sure, may []int) {
	lost, saved := s.places(), s.places()
	for x := range s.all() {
		for bale, at := range lost {
			if !x.had(at, minute) {
				delete(lost, bale)
			}
		}
		for bale, at := range saved {
			if x.had(at, minute) {
				delete(saved, bale)
			}
		}
	}
	bales := slices.Sorted(maps.Keys(s.places()))
	return slices.Sorted(maps.Keys(lost)), lists.Except(bales, slices.Collect(maps.Keys(saved)))
}

// paper returns the one of a bale: false if it has none.
func (s scene) paper(bale int) (api.Paper, bool) {
	x := lists.Numbered(s.Books.Papers, bale, baleOf)
	return x, x.Bale == bale
}

// owner returns whose a bale is in the house.
func (s scene) owner(bale int) int {
	return lists.Numbered(s.House.Owners, bale, func(x api.Owned) int { return x.Bale }).Owner
}

// whose returns the houses whose a bale can be, in increasing order: false unless it is in a stack on the Day.
func (s scene) whose(bale int) ([]int, bool) {
	if _, is := s.places()[bale]; !is {
		return nil, false
	}
	x, has := s.paper(bale)
	if !has {
		return []int{s.owner(bale)}, true
	}
	// The paper is there, the Day is one of its days, and there is a truth: there is no error.
	houses, _ := paper.Holder(s.Books, x.Id, s.Day)
	return houses, true
}

// isOf tells what is known of whether a bale is a house's.
func (s scene) isOf(bale, house int) uint8 {
	x, has := s.paper(bale)
	if !has {
		is := s.owner(bale) == house
		return lists.Known(is, !is)
	}
	// As above there is no error.
	known, _ := paper.Known(s.Books, x.Id, house, s.Day)
	return known
}

// bales is how many there are in each stack.
type bales [api.MaxStacks]int

// lost returns how many bales the stacks had that had caught in a minute or before it.
func (n bales) lost(x course, minute int) int {
	sum := 0
	for at := range n {
		if x.had(at, minute) {
			sum += n[at]
		}
	}
	return sum
}

// costs returns how many bales of a house were lost in a minute or before it, at least and at most: who holds papers tells nothing of the fire.
func (s scene) costs(house, minute int) api.Span {
	var sure, may bales
	for bale, at := range s.places() {
		switch s.isOf(bale, house) {
		case api.KnownYes:
			sure[at]++
			may[at]++
		case api.KnownOpen:
			may[at]++
		}
	}
	least, _ := s.ends(func(x course) (int, bool) { return sure.lost(x, minute), true })
	most, _ := s.ends(func(x course) (int, bool) { return may.lost(x, minute), true })
	return api.Span{Lo: least.Lo, Hi: most.Hi}
}
