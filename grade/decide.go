package grade

import (
	"slices"

	"middling/api"
)

// Decide returns what the house says of a bale (P2.5).
func Decide(d api.Desk, bale int) (int, api.Errno) {
	if e := asked(d, about{bales: []int{bale}}); e != api.OK {
		return 0, e
	}
	grade, _ := decided(heard(d, bale))
	if grade == 0 {
		return 0, api.ErrNone
	}
	return grade, api.OK
}

// Third returns the bales that need a third look (P2.5).
func Third(d api.Desk) ([]int, api.Errno) {
	if e := Check(d); e != api.OK {
		return nil, e
	}
	var l []int
	for _, b := range d.Bales {
		if _, third := decided(heard(d, b)); third {
			l = append(l, b)
		}
	}
	return l, api.OK
}

// heard returns what the first three classers said of a bale, in the order of their first looks: 0 where nobody looked.
func heard(d api.Desk, bale int) [3]int {
	var grades [3]int
	var before []int
looks:
	for _, x := range d.Looks {
		if x.Bale != bale || len(before) == len(grades) {
			continue
		}
		for _, c := range before {
			if c == x.Classer {
				continue looks
			}
		}
		grades[len(before)] = x.Said
		before = append(before, x.Classer)
	}
	return grades
}

// decided returns what the house says, or 0, and whether a third look is needed for it.
func decided(grades [3]int) (grade int, third bool) {
	first, second := grades[0], grades[1]
	switch {
	case grades == [3]int{first}:
		return 0, false
	case first == second:
		return first, false
	case grades == [3]int{first, second}:
		return 0, true
	}
	slices.Sort(grades[:])
	return grades[1], false
}
