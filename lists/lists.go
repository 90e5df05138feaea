// Package lists contains what several layers need: numbers in spans and among others, what is known of something, lists without some things, things by their numbers and in the order of these, the first of several things, questions in their order, and what is told after them.
package lists

import (
	"iter"
	"slices"

	"middling/api"
)

// Within reports whether numbers are in a span.
func Within(s api.Span, numbers ...int) bool {
	for _, n := range numbers {
		if n < s.Lo || n > s.Hi {
			return false
		}
	}
	return true
}

// Part reports whether a span has numbers, all of them from least to most.
func Part(s api.Span, least, most int) bool {
	return s.Lo <= s.Hi && Within(api.Span{Lo: least, Hi: most}, s.Lo, s.Hi)
}

// Known tells what is known of something that can be so, or can not be so.
func Known(so, not bool) uint8 {
	switch {
	case !not:
		return api.KnownYes
	case !so:
		return api.KnownNo
	}
	return api.KnownOpen
}

// Among reports whether each one of some numbers is one of all.
func Among(all, some []int) bool {
	return !slices.ContainsFunc(some, func(n int) bool { return !slices.Contains(all, n) })
}

// Except returns a new list without some things.
func Except[T comparable](l, out []T) []T {
	return slices.DeleteFunc(slices.Clone(l), func(x T) bool { return slices.Contains(out, x) })
}

// Rising reports whether numbers are in increasing order, no one twice, each from 1 to MaxId.
func Rising(l []int) bool {
	last := 0
	for _, n := range l {
		if n <= last {
			return false
		}
		last = n
	}
	return last <= api.MaxId
}

// Numbers returns the number of each thing.
func Numbers[T any](l []T, number func(T) int) []int {
	var out []int
	for _, x := range l {
		out = append(out, number(x))
	}
	return out
}

// Numbered returns the first thing that has a number: the zero value if there is none.
func Numbered[T any](l []T, n int, number func(T) int) T {
	for _, x := range l {
		if number(x) == n {
			return x
		}
	}
	var none T
	return none
}

// Put returns a new list, that has x before the first thing whose number is not less.
func Put[T any](l []T, x T, number func(T) int) []T {
	at := slices.IndexFunc(l, func(y T) bool { return number(y) >= number(x) })
	if at < 0 {
		at = len(l)
	}
	return slices.Insert(slices.Clone(l), at, x)
}

// Strike returns a new list without the things that have some numbers: false unless these are numbers of things, in increasing order, no one twice.
func Strike[T any](l []T, numbers []int, number func(T) int) ([]T, bool) {
	if !Rising(numbers) {
		return nil, false
	}
	left := slices.DeleteFunc(slices.Clone(l), func(x T) bool { return slices.Contains(numbers, number(x)) })
	// No number is there twice: if as many things went out, each number is that of a thing.
	if len(left)+len(numbers) != len(l) {
		return nil, false
	}
	return left, true
}

// Fewest returns the first list that is right, of at most so many things of l, in their order: the shortest one, then the one with the thing that comes before where they differ. What right is given is written over after it.
func Fewest[T any](l []T, most int, right func([]T) bool) ([]T, bool) {
	var tried []T
	var longer func(from, more int) bool
	longer = func(from, more int) bool {
		if more == 0 {
			return right(tried)
		}
		for i := from; i+more <= len(l); i++ {
			tried = append(tried, l[i])
			if longer(i+1, more-1) {
				return true
			}
			tried = tried[:len(tried)-1]
		}
		return false
	}
	for n := range min(most, len(l)) + 1 {
		if longer(0, n) {
			return tried, true
		}
	}
	return nil, false
}

// First returns the first one of several things by an order, which is below 0 if a comes before b: false if there is nothing.
func First[T any](things iter.Seq[T], order func(a, b T) int) (T, bool) {
	var first T
	some := false
	for x := range things {
		if !some || order(x, first) < 0 {
			first, some = x, true
		}
	}
	return first, some
}

// Question is what a thing is asked that a call works on, and the error if it is not so.
type Question[T, A any] struct {
	So func(thing T, about A) bool
	E  api.Errno
}

// Asked returns the error of the first question of which it is not so.
func Asked[T, A any](thing T, about A, questions ...Question[T, A]) api.Errno {
	for _, q := range questions {
		if !q.So(thing, about) {
			return q.E
		}
	}
	return api.OK
}

// Told returns what is told of a thing at work, unless there is an error.
func Told[T, R any](thing T, e api.Errno, tell func(T) R) (R, api.Errno) {
	if e != api.OK {
		var none R
		return none, e
	}
	return tell(thing), api.OK
}

// ToldIf returns what is told of a thing at work, unless there is an error: the last one if there is nothing to tell.
func ToldIf[T, R any](thing T, e api.Errno, tell func(T) (R, bool), last api.Errno) (R, api.Errno) {
	var none R
	if e != api.OK {
		return none, e
	}
	r, ok := tell(thing)
	if !ok {
		return none, last
	}
	return r, api.OK
}
