package table_test

import (
	"math"
	"testing"

	"rota/api"
	"rota/table"
)

// call is a call by all but its table, as what it answers beside its error: whether that is zero.
type call struct {
	name string
	do   func(t api.Table) (bool, api.Errno)
}

// ofP is the calls that ask for a P.
func ofP(now uint64, p int) []call {
	return []call{
		{"Owner", func(t api.Table) (bool, api.Errno) { x, e := table.Owner(t, now, p); return x == 0, e }},
		{"Left", func(t api.Table) (bool, api.Errno) { x, e := table.Left(t, now, p); return x == 0, e }},
		{"Ends", func(t api.Table) (bool, api.Errno) { x, e := table.Ends(t, now, p); return !x, e }},
	}
}

// ofDomain is the calls that ask for a domain.
func ofDomain(n uint64, domain int) []call {
	return []call{
		{"Has", func(t api.Table) (bool, api.Errno) { x, e := table.Has(t, n, domain); return len(x) == 0, e }},
		{"Ticks", func(t api.Table) (bool, api.Errno) { x, e := table.Ticks(t, n, domain); return x == 0, e }},
		{"Share", func(t api.Table) (bool, api.Errno) { x, e := table.Share(t, domain); return x == 0, e }},
		{"Longest", func(t api.Table) (bool, api.Errno) { x, e := table.Longest(t, domain); return x == 0, e }},
		{"Wait", func(t api.Table) (bool, api.Errno) { x, y, e := table.Wait(t, domain, n); return x == 0 && !y, e }},
		{"Supply", func(t api.Table) (bool, api.Errno) { x, e := table.Supply(t, domain, n); return x == 0, e }},
	}
}

// refuse holds of some calls that each is refused with an error, and answers nothing else.
func refuse(t *testing.T, what string, l []call, tab api.Table, want api.Errno) {
	t.Helper()
	for _, c := range l {
		if zero, e := c.do(tab); !zero || e != want {
			t.Errorf("%s: %s: error %d, not %d, and beside it zero: %v", what, c.name, e, want, zero)
		}
	}
}

// wrongTable is a table that may not be, and why.
type wrongTable struct {
	what string
	tab  api.Table
	e    api.Errno
}

// wrongTables is tables that may not be of any number of domains, each with a slot of domain 0 on P 0, as far as it has Ps.
func wrongTables() []wrongTable {
	good := on(slot(0, 0, 4, 0))
	return []wrongTable{
		{"a frame of nothing", of(0, good), api.ErrFrame},
		{"a frame that is too long", of(frames+1, good), api.ErrFrame},
		{"a frame of all ticks", of(last, good), api.ErrFrame},
		{"nothing", api.Table{}, api.ErrFrame},
		{"no P", of(10), api.ErrFrame},
		{"too many Ps", alike(65, good[0]), api.ErrFrame},
		{"too many slots", of(frames, good, row(1025, 1, 0)), api.ErrFull},
		{"a window of nothing", of(10, good, on(slot(0, 3, 0, 0))), api.ErrWindow},
		{"a window beyond the frame", of(10, good, on(slot(0, 8, 3, 0))), api.ErrWindow},
		{"a window far beyond it", of(10, good, on(slot(0, last, 2, 0))), api.ErrWindow},
		{"a pad as long as its window", of(10, good, on(slot(0, 3, 4, 4))), api.ErrWindow},
		{"a domain that there is not", of(10, good, on(slot(16, 3, 4, 0))), api.ErrOwner},
		{"a domain below 0", of(10, good, on(slot(-1, 3, 4, 0))), api.ErrOwner},
		{"slots that meet", of(10, good, on(slot(0, 3, 4, 0), slot(1, 6, 1, 0))), api.ErrMeet},
		{"slots out of order", of(10, on(slot(0, 5, 4, 0), slot(0, 0, 2, 0))), api.ErrMeet},
	}
}

// U1: what Check refuses, all others refuse, whether or not what they ask for is wrong.
func TestWrongTables(t *testing.T) {
	for _, w := range wrongTables() {
		for _, n := range []uint64{0, 5, supply, supply + 1, last} {
			for _, i := range []int{0, 1, -1, 16, 64, 65, math.MaxInt, math.MinInt} {
				refuse(t, w.what, ofP(n, i), w.tab, w.e)
				refuse(t, w.what, ofDomain(n, i), w.tab, w.e)
			}
		}
	}
}

// U1: all others take as many domains as there may be, whoever has slots.
func TestDomainsOfTheOthers(t *testing.T) {
	tab := of(10, on(slot(15, 0, 4, 0)))
	for _, n := range []uint64{0, 5, last} {
		for _, c := range append(ofP(n, 0), ofDomain(n, 15)[:5]...) {
			if _, e := c.do(tab); e != api.OK {
				t.Errorf("%s(%d): error %d", c.name, n, e)
			}
		}
	}
	for d := range domains {
		for _, c := range ofDomain(5, d) {
			if _, e := c.do(tab); e != api.OK {
				t.Errorf("%s of domain %d: error %d", c.name, d, e)
			}
		}
	}
}

// U1: no such P.
func TestWrongPs(t *testing.T) {
	for _, n := range []uint64{0, 5, last} {
		for _, p := range []int{-1, 2, 3, 63, 64, 65, 1 << 32, math.MaxInt, math.MinInt} {
			refuse(t, "two Ps", ofP(n, p), two(), api.ErrArg)
		}
		for _, p := range []int{-1, 1, 2} {
			refuse(t, "one P", ofP(n, p), of(10, nil), api.ErrArg)
		}
		for _, p := range []int{-1, 64} {
			refuse(t, "all Ps", ofP(n, p), greatest(), api.ErrArg)
		}
	}
}

// U1: no such domain, also where there is no slot, or too many ticks are asked for.
func TestWrongDomains(t *testing.T) {
	for _, n := range []uint64{0, 5, supply, supply + 1, last} {
		for _, d := range []int{-1, 16, 17, 1 << 32, math.MaxInt, math.MinInt} {
			refuse(t, "the chapter's table", ofDomain(n, d), two(), api.ErrArg)
			refuse(t, "no slot", ofDomain(n, d), of(10, nil), api.ErrArg)
		}
	}
}

// R1: none panics at numbers by chance, whatever the table, and Check and the others say the same of it.
func TestAnything(t *testing.T) {
	odd := []uint64{0, 1, 2, 3, 9, 10, 11, 65535, 65536, 65537, 1 << 63, last - 1, last}
	for i, frame := range odd {
		for j, start := range odd {
			for k, length := range odd {
				for m, pad := range odd {
					s := slot(i+j+k+m-8, start, length, pad)
					tab := of(frame, on(s, slot(1, 3, 2, 1)), on(s))
					_, _, e := table.Check(tab, domains)
					for _, c := range append(ofP(pad, m%2), ofDomain(pad%supply, m)...) {
						if _, f := c.do(tab); f != e {
							t.Fatalf("%+v: Check: %d, %s: %d", tab, e, c.name, f)
						}
					}
				}
			}
		}
	}
}
