// Package testhelp contains what the tests of several layers need. No layer calls it.
package testhelp

import (
	"iter"
	"slices"

	"middling/api"
)

// Sets returns all sets of numbers from 0 to n - 1 in order: the smaller ones first, then as lists.
func Sets(n int) [][]int {
	l := [][]int{nil}
	for at := 0; at < len(l); at++ {
		from := 0
		if k := len(l[at]); k > 0 {
			from = l[at][k-1] + 1
		}
		for i := from; i < n; i++ {
			l = append(l, append(slices.Clone(l[at]), i))
		}
	}
	return l
}

// Chosen returns the things of l that have these indexes.
func Chosen[T any](l []T, indexes []int) []T {
	var out []T
	for _, i := range indexes {
		out = append(out, l[i])
	}
	return out
}

// Fewest returns the first of all sets of numbers that is right, by how many they are, then as lists: false if no one of at most so many is.
func Fewest(numbers []int, most int, right func(out []int) bool) ([]int, bool) {
	for _, x := range Sets(len(numbers)) {
		if len(x) > most {
			break
		}
		if out := Chosen(numbers, x); right(out) {
			return out, true
		}
	}
	return nil, false
}

// KnownBy tells what is known of something that is so in so many of all truths.
func KnownBy(so, all int) uint8 {
	switch so {
	case 0:
		return api.KnownNo
	case all:
		return api.KnownYes
	}
	return api.KnownOpen
}

// Sorted puts numbers in increasing order, each one once.
func Sorted(v []int) []int {
	slices.Sort(v)
	return slices.Compact(v)
}

// Fills reports whether a span is just these numbers, which are in increasing order.
func Fills(s api.Span, v []int) bool {
	return len(v) > 0 && v[0] == s.Lo && v[len(v)-1] == s.Hi && len(v) == s.Hi-s.Lo+1
}

// Zero reports whether a result is a zero value, and returns the error beside it.
func Zero[T comparable](x T, e api.Errno) (bool, api.Errno) {
	var zero T
	return x == zero, e
}

// NoList reports whether a list has nothing, and returns the error beside it.
func NoList[T any](l []T, e api.Errno) (bool, api.Errno) { return len(l) == 0, e }

// Grown returns a list with capacity behind its end, in which nothing may be written.
func Grown[T any](l []T) []T { return append(make([]T, 0, len(l)+20), l...) }

// Spoil writes over all memory of a list.
func Spoil[T any](l []T, x T) {
	l = l[:cap(l)]
	for i := range l {
		l[i] = x
	}
}

// Apart reports whether no two things share memory: each one is spoiled, and those after it have to stay as they were.
func Apart[T any](l []T, copied func(T) T, same func(a, b T) bool, spoil func(T)) bool {
	for i, x := range l {
		var kept []T
		for _, y := range l[i+1:] {
			kept = append(kept, copied(y))
		}
		spoil(x)
		if !slices.EqualFunc(l[i+1:], kept, same) {
			return false
		}
	}
	return true
}

// EndsAnywhere reports whether a loop over things may end after any of them, and goes on alike till then.
func EndsAnywhere[T any](things iter.Seq[T], same func(a, b T) bool) bool {
	all := slices.Collect(things)
	for n := range all {
		var l []T
		for x := range things {
			l = append(l, x)
			if len(l) == n+1 {
				break
			}
		}
		if !slices.EqualFunc(l, all[:n+1], same) {
			return false
		}
	}
	return true
}
