package table_test

import (
	"math/rand/v2"
	"slices"
	"testing"

	"rota/api"
	"rota/table"
)

// The last tick, and the limits.
const (
	last    uint64 = 1<<64 - 1
	frames         = 65536 // ticks of the longest frame
	procs          = 64
	slots          = 1024 // of a P
	domains        = 16
	supply  uint64 = 1 << 48 // ticks of which Supply tells
)

// slot is a slot in short, on the slots of a P, of a table of some Ps.
func slot(domain int, start, length, pad uint64) api.Slot {
	return api.Slot{Domain: domain, Window: api.Window{Start: start, Length: length}, Pad: pad}
}
func on(l ...api.Slot) []api.Slot { return l }
func of(frame uint64, l ...[]api.Slot) api.Table {
	return api.Table{Frame: frame, Procs: l}
}

// two is the table of the chapter's examples.
func two() api.Table {
	return of(10, on(slot(0, 0, 4, 1), slot(1, 4, 6, 2)), on(slot(0, 2, 3, 0)))
}

// row is n slots one behind the other, from place 0 on, each of a length, of the domains 0, 1, .. in turn.
func row(n int, length, pad uint64) (l []api.Slot) {
	for i := range n {
		l = append(l, slot(i%domains, uint64(i)*length, length, pad))
	}
	return l
}

// greatest is a table at all limits: each P has as many slots as may be, in the longest frame.
func greatest() api.Table {
	t := of(frames)
	for range procs {
		t.Procs = append(t.Procs, row(slots, frames/slots, 3))
	}
	return t
}

// copyOf is a table in memory of its own.
func copyOf(t api.Table) api.Table {
	l := slices.Clone(t.Procs)
	for p := range l {
		l[p] = slices.Clone(l[p])
	}
	t.Procs = l
	return t
}

// same tells whether two tables are the same.
func same(x, y api.Table) bool {
	return x.Frame == y.Frame && slices.EqualFunc(x.Procs, y.Procs, slices.Equal[[]api.Slot])
}

// drawn is a table by chance: slots and gaps up to a length, one behind the other.
func drawn(r *rand.Rand, frame uint64, ps, ds int, most uint64) api.Table {
	t := of(frame)
	for range ps {
		var l []api.Slot
		for at := uint64(0); len(l) < slots; {
			at += r.Uint64N(most+1) * r.Uint64N(2)
			if at >= frame {
				break
			}
			length := 1 + r.Uint64N(min(most, frame-at))
			l = append(l, slot(r.IntN(ds), at, length, r.Uint64N(length)*r.Uint64N(2)))
			at += length
		}
		t.Procs = append(t.Procs, l)
	}
	return t
}

// someTables is tables that may be: those by whose edges a call may go wrong, and some by chance.
func someTables() []api.Table {
	l := []api.Table{
		two(),
		of(1, nil),
		of(1, on(slot(0, 0, 1, 0))),
		of(10, nil, nil, nil),
		of(10, on(slot(0, 0, 10, 0))),
		of(10, on(slot(15, 0, 10, 9))),
		of(10, on(slot(0, 9, 1, 0))),
		of(10, on(slot(3, 7, 3, 2))),
		of(10, on(slot(0, 0, 5, 0), slot(0, 5, 5, 0))),
		of(10, on(slot(0, 0, 5, 4), slot(1, 5, 5, 4))),
		of(10, on(slot(0, 1, 4, 0)), on(slot(0, 3, 4, 1)), on(slot(0, 4, 1, 0), slot(0, 7, 3, 0))),
		of(10, on(slot(0, 0, 4, 0), slot(1, 4, 6, 0)), on(slot(1, 0, 4, 0), slot(0, 4, 6, 0))),
		of(10, nil, on(slot(2, 0, 2, 0), slot(2, 8, 2, 0)), nil, on(slot(2, 0, 2, 1))),
		of(12, on(slot(0, 0, 12, 3)), on(slot(0, 2, 2, 0), slot(0, 9, 3, 2)), on(slot(0, 2, 7, 0))),
	}
	r := rand.New(rand.NewPCG(16, 1))
	for range 60 {
		l = append(l, drawn(r, 1+r.Uint64N(30), 1+r.IntN(5), 1+r.IntN(4), 1+r.Uint64N(12)))
	}
	return l
}

// atP is what is told of a P at a tick.
type atP struct {
	owner int
	left  uint64
	ends  bool
}

// ask asks all of a P at a tick.
func ask(t *testing.T, tab api.Table, now uint64, p int) (x atP) {
	t.Helper()
	var e, f, g api.Errno
	x.owner, e = table.Owner(tab, now, p)
	x.left, f = table.Left(tab, now, p)
	x.ends, g = table.Ends(tab, now, p)
	if e != api.OK || f != api.OK || g != api.OK {
		t.Fatalf("%+v, tick %d, P %d: errors %d, %d, %d", tab, now, p, e, f, g)
	}
	return x
}

// has, ticks, share, longest, wait and supplied ask where nothing is refused.
func has(t *testing.T, tab api.Table, now uint64, domain int) []int {
	t.Helper()
	l, e := table.Has(tab, now, domain)
	if e != api.OK {
		t.Fatalf("%+v: Has(%d, %d): error %d", tab, now, domain, e)
	}
	return l
}
func ticks(t *testing.T, tab api.Table, n uint64, domain int) uint64 {
	t.Helper()
	x, e := table.Ticks(tab, n, domain)
	if e != api.OK {
		t.Fatalf("%+v: Ticks(%d, %d): error %d", tab, n, domain, e)
	}
	return x
}
func share(t *testing.T, tab api.Table, domain int) uint64 {
	t.Helper()
	x, e := table.Share(tab, domain)
	if e != api.OK {
		t.Fatalf("%+v: Share(%d): error %d", tab, domain, e)
	}
	return x
}
func longest(t *testing.T, tab api.Table, domain int) uint64 {
	t.Helper()
	x, e := table.Longest(tab, domain)
	if e != api.OK {
		t.Fatalf("%+v: Longest(%d): error %d", tab, domain, e)
	}
	return x
}

// way is what Wait tells.
type way struct {
	most uint64
	some bool
}

func wait(t *testing.T, tab api.Table, domain int, long uint64) way {
	t.Helper()
	most, some, e := table.Wait(tab, domain, long)
	if e != api.OK {
		t.Fatalf("%+v: Wait(%d, %d): error %d", tab, domain, long, e)
	}
	return way{most, some}
}
func supplied(t *testing.T, tab api.Table, domain int, n uint64) uint64 {
	t.Helper()
	x, e := table.Supply(tab, domain, n)
	if e != api.OK {
		t.Fatalf("%+v: Supply(%d, %d): error %d", tab, domain, n, e)
	}
	return x
}
