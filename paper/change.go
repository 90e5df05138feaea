package paper

import (
	"slices"

	"middling/api"
	"middling/lists"
)

// Put returns the papers with a pass more (P7.7).
func Put(p api.Papers, x api.Pass) (api.Papers, api.Errno) {
	if e := Check(p); e != api.OK {
		return api.Papers{}, e
	}
	if len(p.Passes) >= api.MaxPasses {
		return api.Papers{}, api.ErrFull
	}
	y := copied(p)
	y.Passes = lists.Put(p.Passes, x, numberOfPass)
	return ifValid(y, api.ErrPass)
}

// Lend returns the papers with a pledge more (P7.7).
func Lend(p api.Papers, x api.Pledge) (api.Papers, api.Errno) {
	if e := Check(p); e != api.OK {
		return api.Papers{}, e
	}
	if len(p.Pledges) >= api.MaxPledges {
		return api.Papers{}, api.ErrFull
	}
	y := copied(p)
	y.Pledges = lists.Put(p.Pledges, x, numberOfPledge)
	return ifValid(y, api.ErrPledge)
}

// Issue returns the papers with a paper more (P7.7).
func Issue(p api.Papers, x api.Paper) (api.Papers, api.Errno) {
	if e := Check(p); e != api.OK {
		return api.Papers{}, e
	}
	if len(p.Papers) >= api.MaxPapers {
		return api.Papers{}, api.ErrFull
	}
	y := copied(p)
	y.Papers = lists.Put(p.Papers, x, idOf)
	return ifValid(y, api.ErrPaper)
}

// Strike returns the papers without some passes (P7.7).
func Strike(p api.Papers, numbers []int) (api.Papers, api.Errno) {
	if e := Check(p); e != api.OK {
		return api.Papers{}, e
	}
	left, ok := lists.Strike(p.Passes, numbers, numberOfPass)
	if !ok {
		return api.Papers{}, api.ErrPass
	}
	y := copied(p)
	y.Passes = left
	return y, api.OK
}

// ifValid returns papers if they are valid, otherwise an error.
func ifValid(p api.Papers, e api.Errno) (api.Papers, api.Errno) {
	if Check(p) != api.OK {
		return api.Papers{}, e
	}
	return p, api.OK
}

// copied returns the papers in memory of their own.
func copied(p api.Papers) api.Papers {
	p.Papers, p.Passes, p.Pledges = slices.Clone(p.Papers), slices.Clone(p.Passes), slices.Clone(p.Pledges)
	return p
}
