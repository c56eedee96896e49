package cells

import (
	"slices"

	"rota/api"
)

// Replay is what is in cells behind accesses; else the first that can't be.
func Replay(values []int64, l []api.Access) ([]int64, int, api.Errno) {
	now := slices.Clone(values)
	for at, a := range l {
		if !isPlace(a.Cell, now) {
			return nil, at, api.ErrCell
		}
		if !mayBe(a, now[a.Cell]) {
			return nil, at, api.ErrLog
		}
		now[a.Cell] = a.After
	}
	return now, 0, api.OK
}

// mayBe tells whether an access can be one of a cell that holds there. What it was to put is not known, so whatever it wrote may be.
func mayBe(a api.Access, there int64) bool {
	if a.Before != there || !a.Wrote && a.After != a.Before {
		return false
	}
	switch a.Kind {
	case api.AccLoad:
		return !a.Wrote
	case api.AccStore, api.AccAdd:
		return a.Wrote
	case api.AccSwap:
		return true
	}
	return false
}

// From is, for each access, the place of the one that wrote what it found; -1: none did.
func From(l []api.Access) []int {
	out := make([]int, len(l))
	last := map[int]int{} // by the cell, which may be any number
	for at, a := range l {
		out[at] = -1
		if wrote, found := last[a.Cell]; found {
			out[at] = wrote
		}
		if a.Wrote {
			last[a.Cell] = at
		}
	}
	return out
}
