package cells_test

import (
	"math"
	"slices"
	"testing"

	"rota/api"
	"rota/cells"
)

// limit is how many cells there may be.
const limit = 256

// call is one of Load, Store, Swap and Add, by its kind, and what it is given; what it does not take is 0.
type call struct {
	kind, cell int
	old, v     int64
}

// on carries a call out.
func (x call) on(c *cells.Cells) (api.Access, api.Errno) {
	switch x.kind {
	case api.AccLoad:
		return c.Load(x.cell)
	case api.AccStore:
		return c.Store(x.cell, x.v)
	case api.AccSwap:
		return c.Swap(x.cell, x.old, x.v)
	}
	return c.Add(x.cell, x.v)
}

// load, store, swap and add are calls.
func load(cell int) call               { return call{kind: api.AccLoad, cell: cell} }
func store(cell int, v int64) call     { return call{kind: api.AccStore, cell: cell, v: v} }
func swap(cell int, old, v int64) call { return call{kind: api.AccSwap, cell: cell, old: old, v: v} }
func add(cell int, v int64) call       { return call{kind: api.AccAdd, cell: cell, v: v} }

// eachCall is one of each kind, of a cell. They would be seen in any cell that holds 0.
func eachCall(cell int) []call {
	return []call{load(cell), store(cell, 3), swap(cell, 0, 4), add(cell, 5)}
}

// wrote and left are accesses: one that wrote, and one that did not.
func wrote(cell, kind int, before, after int64) api.Access {
	return api.Access{Cell: cell, Kind: kind, Before: before, After: after, Wrote: true}
}
func left(cell, kind int, there int64) api.Access {
	return api.Access{Cell: cell, Kind: kind, Before: there, After: there}
}

// fresh is so many new cells.
func fresh(t *testing.T, n int) *cells.Cells {
	t.Helper()
	c, e := cells.New(n)
	if e != api.OK || c == nil {
		t.Fatalf("New(%d): %v, %d", n, c, e)
	}
	return c
}

// holding is cells with something in each.
func holding(t *testing.T, values ...int64) *cells.Cells {
	t.Helper()
	c := fresh(t, len(values))
	for i, v := range values {
		if _, e := c.Store(i, v); e != api.OK {
			t.Fatalf("Store(%d, %d): %d", i, v, e)
		}
	}
	return c
}

// tells asks cells how many they are, and what is in them.
func tells(t *testing.T, what string, c *cells.Cells, want ...int64) {
	t.Helper()
	if n := c.Len(); n != len(want) {
		t.Errorf("%s: Len: %d, not %d", what, n, len(want))
	}
	if l := c.Values(); !slices.Equal(l, want) {
		t.Errorf("%s: Values: %v, not %v", what, l, want)
	}
}

// does carries out a call that is not refused.
func does(t *testing.T, c *cells.Cells, x call, want api.Access) {
	t.Helper()
	if a, e := x.on(c); a != want || e != api.OK {
		t.Errorf("%+v: %+v, %d, not %+v", x, a, e, want)
	}
}

// refuses carries out a call that is refused, and leaves all as it was.
func refuses(t *testing.T, c *cells.Cells, x call, want api.Errno) {
	t.Helper()
	before := c.Values()
	if a, e := x.on(c); a != (api.Access{}) || e != want {
		t.Errorf("%+v: %+v, %d, not %d", x, a, e, want)
	}
	if l := c.Values(); !slices.Equal(l, before) {
		t.Errorf("%+v was refused, and %v became %v", x, before, l)
	}
}

// replays asks for what is in cells behind a log that may be.
func replays(t *testing.T, values []int64, l []api.Access, want ...int64) {
	t.Helper()
	if got, at, e := cells.Replay(values, l); !slices.Equal(got, want) || at != 0 || e != api.OK {
		t.Errorf("Replay(%v, %+v): %v, %d, %d, not %v", values, l, got, at, e, want)
	}
}

// breaks asks for a log that can't be, from a place on.
func breaks(t *testing.T, values []int64, l []api.Access, at int, want api.Errno) {
	t.Helper()
	if got, place, e := cells.Replay(values, l); len(got) != 0 || place != at || e != want {
		t.Errorf("Replay(%v, %+v): %v, %d, %d, not %d, %d", values, l, got, place, e, at, want)
	}
}

// comes asks where what accesses found came from.
func comes(t *testing.T, l []api.Access, want ...int) {
	t.Helper()
	if got := cells.From(l); !slices.Equal(got, want) {
		t.Errorf("From(%+v): %v, not %v", l, got, want)
	}
}

// edges is numbers at which something may go wrong.
func edges() []int64 {
	return []int64{0, 1, 2, 7, 255, 256, 1 << 31, 1 << 32, 1 << 62, math.MaxInt64 - 1, math.MaxInt64, -1, -2, -7, -1 << 31, -1 << 32, -1 << 62, math.MinInt64 + 1, math.MinInt64}
}

// noCells is numbers that are no cell, where there are so many.
func noCells(n int) []int {
	return []int{-1, -2, -n - 1, n, n + 1, n + limit, 1 << 32, 1<<32 + n, -1 << 32, math.MaxInt, math.MinInt}
}

// noKinds is numbers that are no kind of an access.
func noKinds() []int {
	return []int{0, -1, -2, 5, 6, 255, 256, 257, 1 << 32, 1<<32 + 1, math.MaxInt, math.MinInt}
}

// differing is so many numbers, none of them twice, and none of them 0.
func differing(n int) []int64 {
	l := make([]int64, n)
	for i := range l {
		l[i] = int64(1000 + i)
	}
	return l
}

// except is a list with another number at a place.
func except(l []int64, i int, v int64) []int64 {
	l = slices.Clone(l)
	l[i] = v
	return l
}
