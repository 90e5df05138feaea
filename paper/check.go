package paper

import (
	"slices"

	"middling/api"
	"middling/lists"
)

// Check returns the error of papers (P7.1).
func Check(p api.Papers) api.Errno {
	if !lists.Within(api.Span{Lo: 1, Hi: api.MaxTerm}, p.Days) || !hasValidPapers(p) || !hasValidPasses(p) || !hasValidPledges(p) {
		return api.ErrPapers
	}
	return api.OK
}

func hasValidPapers(p api.Papers) bool {
	if len(p.Papers) > api.MaxPapers || !lists.Rising(lists.Numbers(p.Papers, idOf)) {
		return false
	}
	return !slices.ContainsFunc(p.Papers, func(x api.Paper) bool { return !areIds(x.Bale, x.Holder) })
}

func hasValidPasses(p api.Papers) bool {
	if len(p.Passes) > api.MaxPasses || !lists.Rising(lists.Numbers(p.Passes, numberOfPass)) {
		return false
	}
	if !areOf(p, lists.Numbers(p.Passes, func(x api.Pass) int { return x.Paper }), api.MaxHands) {
		return false
	}
	return !slices.ContainsFunc(p.Passes, func(x api.Pass) bool {
		return !areIds(x.From, x.To) || x.From == x.To || !isOfDays(p, x.When)
	})
}

func hasValidPledges(p api.Papers) bool {
	if len(p.Pledges) > api.MaxPledges || !lists.Rising(lists.Numbers(p.Pledges, numberOfPledge)) {
		return false
	}
	if !areOf(p, lists.Numbers(p.Pledges, func(x api.Pledge) int { return x.Paper }), api.MaxLiens) {
		return false
	}
	return !slices.ContainsFunc(p.Pledges, func(x api.Pledge) bool {
		return !areIds(x.By, x.Bank) || !isOfDays(p, x.From) || !isOfDays(p, x.Until) || x.From.Lo > x.Until.Hi
	})
}

// areOf reports whether all of some Ids are those of papers, none of them there more often than so.
func areOf(p api.Papers, ids []int, most int) bool {
	times := map[int]int{}
	for _, id := range ids {
		times[id]++
		if times[id] > most {
			return false
		}
	}
	return lists.Among(lists.Numbers(p.Papers, idOf), ids)
}

func areIds(ids ...int) bool { return lists.Within(api.Span{Lo: 1, Hi: api.MaxId}, ids...) }

func isOfDays(p api.Papers, s api.Span) bool { return lists.Part(s, 0, p.Days-1) }

func idOf(x api.Paper) int { return x.Id }

func numberOfPass(x api.Pass) int { return x.Number }

func numberOfPledge(x api.Pledge) int { return x.Number }

// about is what a call is about: papers, by their Ids, passes and pledges, by their Numbers, and days.
type about struct{ papers, passes, pledges, days []int }

// questions returns what papers are asked, in order: each one relies on those before it.
func questions() [6]lists.Question[api.Papers, about] {
	return [6]lists.Question[api.Papers, about]{
		{So: areValid, E: api.ErrPapers},
		{So: hasPapers, E: api.ErrNone},
		{So: hasPasses, E: api.ErrNone},
		{So: hasPledges, E: api.ErrNone},
		{So: areDays, E: api.ErrTerm},
		{So: hasTruth, E: api.ErrBad},
	}
}

func areValid(p api.Papers, _ about) bool { return Check(p) == api.OK }

func hasPapers(p api.Papers, x about) bool {
	return lists.Among(lists.Numbers(p.Papers, idOf), x.papers)
}

func hasPasses(p api.Papers, x about) bool {
	return lists.Among(lists.Numbers(p.Passes, numberOfPass), x.passes)
}

func hasPledges(p api.Papers, x about) bool {
	return lists.Among(lists.Numbers(p.Pledges, numberOfPledge), x.pledges)
}

func areDays(p api.Papers, x about) bool {
	return lists.Within(api.Span{Lo: 0, Hi: p.Days - 1}, x.days...)
}

func hasTruth(p api.Papers, _ about) bool { return register{p}.can() }

// open returns the register of papers that have a truth, or the first error of a call (P7.1).
func open(p api.Papers, x about) (register, api.Errno) {
	l := questions()
	if e := lists.Asked(p, x, l[:]...); e != api.OK {
		return register{}, e
	}
	return register{p}, api.OK
}

// told returns what is told of papers that have a truth, or the first error of a call.
func told[T any](p api.Papers, x about, tell func(register) T) (T, api.Errno) {
	r, e := open(p, x)
	return lists.Told(r, e, tell)
}
