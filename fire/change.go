package fire

import (
	"slices"

	"middling/api"
	"middling/lists"
	"middling/paper"
	"middling/stack"
)

// Put returns the blaze with a glance more (P11.7).
func Put(b api.Blaze, x api.Glance) (api.Blaze, api.Errno) {
	if e := Check(b); e != api.OK {
		return api.Blaze{}, e
	}
	if len(b.Glances) >= api.MaxGlances {
		return api.Blaze{}, api.ErrFull
	}
	b.Glances = lists.Put(b.Glances, x, numberOf)
	if Check(b) != api.OK {
		return api.Blaze{}, api.ErrGlance
	}
	return copied(b), api.OK
}

// Strike returns the blaze without some glances (P11.7).
func Strike(b api.Blaze, numbers []int) (api.Blaze, api.Errno) {
	if e := Check(b); e != api.OK {
		return api.Blaze{}, e
	}
	left, ok := lists.Strike(b.Glances, numbers, numberOf)
	if !ok {
		return api.Blaze{}, api.ErrGlance
	}
	b.Glances = left
	return copied(b), api.OK
}

// copied returns a valid blaze in memory of its own.
func copied(b api.Blaze) api.Blaze {
	// Without nothing the warehouse and the papers are the same, but new; they are valid, so there is no error.
	b.House, _ = stack.Strike(b.House, nil)
	b.Books, _ = paper.Strike(b.Books, nil)
	b.Begins, b.Gaps, b.Glances = slices.Clone(b.Begins), slices.Clone(b.Gaps), slices.Clone(b.Glances)
	return b
}
