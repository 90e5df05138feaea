package river

import (
	"slices"

	"middling/api"
	"middling/lists"
	"middling/stack"
)

// Put returns the flood with a report more (P10.7).
func Put(f api.Flood, x api.Report) (api.Flood, api.Errno) {
	return with(f, len(f.Reports) < api.MaxReports, func(y *api.Flood) { y.Reports = lists.Put(y.Reports, x, numberOf) }, api.ErrReport)
}

// Hire returns the flood with a gang more (P10.7).
func Hire(f api.Flood, g api.Gang) (api.Flood, api.Errno) {
	return with(f, len(f.Gangs) < api.MaxGangs, func(y *api.Flood) { y.Gangs = lists.Put(y.Gangs, g, idOf) }, api.ErrGang)
}

// Strike returns the flood without some reports (P10.7).
func Strike(f api.Flood, numbers []int) (api.Flood, api.Errno) {
	if e := Check(f); e != api.OK {
		return api.Flood{}, e
	}
	left, ok := lists.Strike(f.Reports, numbers, numberOf)
	if !ok {
		return api.Flood{}, api.ErrReport
	}
	f.Reports = left
	return copied(f), api.OK
}

// with returns a valid flood to which something is added, if there is room for it: an error unless it is valid then.
func with(f api.Flood, room bool, add func(*api.Flood), unless api.Errno) (api.Flood, api.Errno) {
	if e := Check(f); e != api.OK {
		return api.Flood{}, e
	}
	if !room {
		return api.Flood{}, api.ErrFull
	}
	y := copied(f)
	add(&y)
	if Check(y) != api.OK {
		return api.Flood{}, unless
	}
	return y, api.OK
}

// copied returns a valid flood in memory of its own.
func copied(f api.Flood) api.Flood {
	// Without nothing the warehouse is the same, but new; it is valid, so there is no error.
	f.House, _ = stack.Strike(f.House, nil)
	f.Levels, f.Gangs, f.Worths, f.Reports = slices.Clone(f.Levels), slices.Clone(f.Gangs), slices.Clone(f.Worths), slices.Clone(f.Reports)
	return f
}
