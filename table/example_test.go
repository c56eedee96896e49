package table_test

import (
	"slices"
	"testing"

	"rota/api"
	"rota/table"
)

// U2, U3: the chapter's first example.
func TestExampleOfATable(t *testing.T) {
	for _, c := range []struct {
		tick uint64
		p    int
		want atP
	}{
		{13, 0, atP{0, 0, true}},
		{12, 0, atP{0, 1, false}},
		{25, 1, atP{-1, 0, false}},
	} {
		if x := ask(t, two(), c.tick, c.p); x != c.want {
			t.Errorf("tick %d, P %d: %+v, not %+v", c.tick, c.p, x, c.want)
		}
	}
	if l := has(t, two(), 2, 0); !slices.Equal(l, []int{0, 1}) {
		t.Errorf("Has(2, 0): %v", l)
	}
	if x, y := share(t, two(), 0), share(t, two(), 1); x != 6 || y != 4 {
		t.Errorf("Share: %d and %d, not 6 and 4", x, y)
	}
	if n := ticks(t, two(), 10, 0); n != 5 {
		t.Errorf("Ticks(10, 0): %d, not 5", n)
	}
	if n := longest(t, two(), 0); n != 3 {
		t.Errorf("Longest(0): %d, not 3", n)
	}
}

// U4: the chapter's second example.
func TestExampleOfWait(t *testing.T) {
	for _, c := range []struct {
		domain int
		long   uint64
		want   way
	}{{0, 3, way{7, true}}, {0, 4, way{0, false}}, {1, 4, way{9, true}}} {
		if x := wait(t, two(), c.domain, c.long); x != c.want {
			t.Errorf("Wait(%d, %d): %v, not %v", c.domain, c.long, x, c.want)
		}
	}
}

// U1: the chapter's third example.
func TestExampleOfCheck(t *testing.T) {
	for _, c := range []struct {
		tab  api.Table
		slot int
		e    api.Errno
	}{
		{of(10, on(slot(0, 0, 4, 4))), 0, api.ErrWindow},
		{of(10, on(slot(0, 8, 3, 0))), 0, api.ErrWindow},
		{of(10, on(slot(0, 0, 4, 0), slot(1, 3, 2, 0))), 1, api.ErrMeet},
		{of(0, on(slot(0, 0, 4, 1))), 0, api.ErrFrame},
	} {
		if p, at, e := table.Check(c.tab, domains); p != 0 || at != c.slot || e != c.e {
			t.Errorf("Check(%+v): %d, %d, %d, not 0, %d, %d", c.tab, p, at, e, c.slot, c.e)
		}
	}
}
