package season

import (
	"slices"

	"middling/api"
	"middling/chain"
	"middling/grade"
	"middling/lists"
	"middling/paper"
	"middling/stack"
)

// Check returns the error of a season (P12.1).
func Check(s api.Season) api.Errno { return asked(s, about{}) }

// about is what a call is about: acts, and lines that are played.
type about struct {
	acts  []api.Act
	lines []string
}

// questions returns what a season is asked, in order.
func questions() [6]lists.Question[api.Season, about] {
	return [6]lists.Question[api.Season, about]{
		{So: hasValidDesk, E: api.ErrSeason},
		{So: hasValidChain, E: api.ErrSeason},
		{So: hasValidHouse, E: api.ErrSeason},
		{So: hasValidPapers, E: api.ErrSeason},
		{So: areRight, E: api.ErrLine},
		{So: areFew, E: api.ErrMany},
	}
}

func hasValidDesk(s api.Season, _ about) bool { return grade.Check(s.Desk) == api.OK }

func hasValidChain(s api.Season, _ about) bool { return chain.Check(s.Chain) == api.OK }

func hasValidHouse(s api.Season, _ about) bool { return stack.Check(s.House) == api.OK }

func hasValidPapers(s api.Season, _ about) bool { return paper.Check(s.Papers) == api.OK }

func areRight(_ api.Season, x about) bool { return notRight(x.acts...) == api.OK }

func areFew(_ api.Season, x about) bool { return len(x.lines) <= api.MaxLines }

// asked returns the first error of a call (P12.1).
func asked(s api.Season, x about) api.Errno {
	l := questions()
	return lists.Asked(s, x, l[:]...)
}

// notRight returns the error of acts unless all are right.
func notRight(acts ...api.Act) api.Errno {
	for _, a := range acts {
		if !isRight(a) {
			return api.ErrLine
		}
	}
	return api.OK
}

func isRight(a api.Act) bool {
	if !lists.Within(api.Span{Lo: api.VerbLook, Hi: api.VerbStop}, int(a.Verb)) || len(a.Nums) != verbOf(a).nums {
		return false
	}
	if !lists.Within(api.Span{Lo: 0, Hi: api.MaxNumber}, a.Nums...) {
		return false
	}
	return a.Verb != api.VerbFound || a.Nums[2] <= 1
}

// open returns the clerk of a valid season, or the first error of a call.
func open(s api.Season, x about) (clerk, api.Errno) {
	if e := asked(s, x); e != api.OK {
		return clerk{}, e
	}
	return clerk{s}, api.OK
}

// replayed returns the clerk behind books, or the error unless they are valid.
func replayed(b api.Books) (clerk, api.Errno) {
	c, e := open(b.First, about{lines: b.Lines})
	if e != api.OK {
		return clerk{}, api.ErrBooks
	}
	c, replies := c.play(b.Lines)
	if slices.ContainsFunc(replies, func(reply string) bool { return reply != done }) {
		return clerk{}, api.ErrBooks
	}
	return c, api.OK
}
