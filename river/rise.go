package river

import "middling/api"

// minutes is in which one the river reaches each level.
type minutes [api.MaxLevels]int

// of returns the minute of a level.
func (m minutes) of(level int) int { return m[level-1] }

// rise is how the river rises, as early and as late as it can.
type rise struct{ early, late minutes }

// riseBy returns how the river rises by some reports.
func riseBy(f api.Flood, reports []api.Report) rise {
	var r rise
	for at := range api.MaxLevels {
		r.early[at], r.late[at] = f.Levels[at].Lo, f.Levels[at].Hi
	}
	for _, x := range reports {
		at := x.Level - 1
		if x.Is {
			r.late[at] = min(r.late[at], x.Minute)
		} else {
			r.early[at] = max(r.early[at], x.Minute+1)
		}
	}
	for at := range api.MaxLevels - 1 {
		r.early[at+1] = max(r.early[at+1], r.early[at]+f.Gap)
	}
	for n := range api.MaxLevels - 1 {
		at := api.MaxLevels - 1 - n
		r.late[at-1] = min(r.late[at-1], r.late[at]-f.Gap)
	}
	return r
}

// comes reports whether there is a truth: then both all early minutes and all late ones are one.
func (r rise) comes() bool {
	for at := range api.MaxLevels {
		if r.early[at] > r.late[at] {
			return false
		}
	}
	return true
}

// reaches returns the minutes in which the river reaches a level, in all truths.
func (r rise) reaches(level int) api.Span {
	return api.Span{Lo: r.early.of(level), Hi: r.late.of(level)}
}
