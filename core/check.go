package core

import (
	"slices"

	"middling/api"
	"middling/lists"
)

// Check returns the error of a bale (P3.1).
func Check(b api.Bale) api.Errno {
	if !lists.Within(api.Span{Lo: 1, Hi: api.MaxId}, b.Id) || !lists.Within(api.Span{Lo: 1, Hi: api.MaxLayers}, b.Layers) || !lists.Part(b.Dry, 1, api.MaxPounds) || !hasValidDraws(b) || !hasValidWeighs(b) {
		return api.ErrBale
	}
	return api.OK
}

func hasValidDraws(b api.Bale) bool {
	if len(b.Draws) > api.MaxDraws || !lists.Rising(lists.Numbers(b.Draws, numberOfDraw)) {
		return false
	}
	return !slices.ContainsFunc(b.Draws, func(x api.Draw) bool {
		return !areLayers(b, x.Layer) || !lists.Part(x.Grade, 1, api.MaxGrade)
	})
}

func hasValidWeighs(b api.Bale) bool {
	if len(b.Weighs) > api.MaxWeighs || !lists.Rising(lists.Numbers(b.Weighs, numberOfWeigh)) {
		return false
	}
	return !slices.ContainsFunc(b.Weighs, func(x api.Weigh) bool {
		return !lists.Within(api.Span{Lo: 1, Hi: 2 * api.MaxPounds}, x.Pounds) || !lists.Part(x.Damp, 0, api.MaxDamp)
	})
}

func areLayers(b api.Bale, at ...int) bool {
	return lists.Within(api.Span{Lo: 0, Hi: b.Layers - 1}, at...)
}

func numberOfDraw(x api.Draw) int { return x.Number }

func numberOfWeigh(x api.Weigh) int { return x.Number }

// about is what a call is about.
type about struct{ layers, kinds, weighs, damps []int }

// questions returns what a bale is asked, in order: each one relies on those before it.
func questions() [6]lists.Question[api.Bale, about] {
	return [6]lists.Question[api.Bale, about]{
		{So: isValid, E: api.ErrBale},
		{So: hasLayers, E: api.ErrLayer},
		{So: areKinds, E: api.ErrKind},
		{So: hasWeighings, E: api.ErrNone},
		{So: areDamps, E: api.ErrDamp},
		{So: hasTruth, E: api.ErrBad},
	}
}

func isValid(b api.Bale, _ about) bool { return Check(b) == api.OK }

func hasLayers(b api.Bale, x about) bool { return areLayers(b, x.layers...) }

func areKinds(_ api.Bale, x about) bool {
	return lists.Within(api.Span{Lo: api.KindPlain, Hi: api.KindMixed}, x.kinds...)
}

func hasWeighings(b api.Bale, x about) bool {
	return lists.Among(lists.Numbers(b.Weighs, numberOfWeigh), x.weighs)
}

func areDamps(_ api.Bale, x about) bool {
	return lists.Within(api.Span{Lo: 0, Hi: api.MaxDamp}, x.damps...)
}

func hasTruth(b api.Bale, _ about) bool { return pressed(b).can() }

// open returns the press of a bale that has a truth, or the first error of a call (P3.1).
func open(b api.Bale, x about) (press, api.Errno) {
	l := questions()
	if e := lists.Asked(b, x, l[:]...); e != api.OK {
		return press{}, e
	}
	return pressed(b), api.OK
}

// told returns what is told of a bale that has a truth, or the first error of a call.
func told[T any](b api.Bale, x about, tell func(press) T) (T, api.Errno) {
	p, e := open(b, x)
	return lists.Told(p, e, tell)
}
