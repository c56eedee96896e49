package table_test

import (
	"testing"

	"rota/api"
	"rota/table"
)

// U4: the greatest number of ticks to the beginning of a slot that is long enough.
func TestWait(t *testing.T) {
	end := of(10, on(slot(0, 9, 1, 0)))
	pads := of(10, on(slot(0, 0, 5, 4), slot(0, 5, 5, 2)))
	for _, c := range []struct {
		what   string
		tab    api.Table
		domain int
		long   uint64
		want   way
	}{
		{"any slot", two(), 0, 0, way{7, true}},
		{"a slot of a tick", two(), 0, 1, way{7, true}},
		{"what Longest tells", two(), 1, 4, way{9, true}},
		{"one more", two(), 1, 5, way{0, false}},
		{"as long as the window, but for its pad", two(), 1, 6, way{0, false}},
		{"no slot, however short", two(), 2, 0, way{0, false}},
		{"no slot", two(), 15, 1, way{0, false}},
		{"no slot at all", of(10, nil), 0, 0, way{0, false}},
		{"longer than all frames", two(), 0, last, way{0, false}},
		{"one slot at the frame's beginning", of(10, on(slot(0, 0, 4, 0))), 0, 4, way{9, true}},
		{"one slot at the frame's end", end, 0, 1, way{9, true}},
		{"one slot at the frame's end, too short", end, 0, 2, way{0, false}},
		{"a frame of one tick", of(1, on(slot(0, 0, 1, 0))), 0, 1, way{0, true}},
		{"a whole frame", of(10, on(slot(0, 0, 10, 3))), 0, 7, way{9, true}},
		{"the pad counts against a slot: both", pads, 0, 1, way{4, true}},
		{"the pad counts against a slot: the second alone", pads, 0, 2, way{9, true}},
		{"the pad counts against a slot: none", pads, 0, 4, way{0, false}},
		{"the same beginning on two Ps", of(10, on(slot(0, 4, 2, 0)), on(slot(0, 4, 3, 0))), 0, 1, way{9, true}},
		{"beginnings of several Ps, out of order", of(10, on(slot(0, 7, 2, 0)), on(slot(0, 1, 2, 0)), on(slot(0, 4, 2, 0))), 0, 1, way{3, true}},
		{"the longest way inside the frame", of(20, on(slot(0, 1, 2, 0), slot(0, 4, 2, 0), slot(0, 18, 2, 0))), 0, 1, way{13, true}},
		{"the longest way first", of(20, on(slot(0, 0, 2, 0), slot(0, 14, 2, 0), slot(0, 18, 2, 0))), 0, 1, way{13, true}},
		{"the longest way round the frame's end", of(20, on(slot(0, 5, 2, 0), slot(0, 10, 2, 0))), 0, 1, way{14, true}},
		{"a slot at each tick", of(3, on(slot(0, 0, 1, 0), slot(0, 1, 1, 0), slot(0, 2, 1, 0))), 0, 1, way{0, true}},
		{"other domains' slots do not count", of(10, on(slot(0, 0, 2, 0), slot(1, 4, 2, 0)), on(slot(1, 8, 1, 0))), 0, 1, way{9, true}},
		{"the longest frame", of(frames, on(slot(0, frames-1, 1, 0))), 0, 1, way{frames - 1, true}},
		{"as many slots as may be", greatest(), 15, 61, way{frames/64 - 1, true}},
	} {
		if x := wait(t, c.tab, c.domain, c.long); x != c.want {
			t.Errorf("%s: Wait(%d, %d): %v, not %v", c.what, c.domain, c.long, x, c.want)
		}
	}
}

// U4, U3: long of what Longest tells has a slot, one more has none.
func TestWaitAndLongest(t *testing.T) {
	for _, tab := range someTables() {
		for d := range domains {
			l := longest(t, tab, d)
			if x := wait(t, tab, d, l); x.some != (l > 0) {
				t.Errorf("%+v, domain %d: Wait of Longest, %d: %v", tab, d, l, x)
			}
			if x := wait(t, tab, d, l+1); x.some {
				t.Errorf("%+v, domain %d: Wait of more than Longest, %d: %v", tab, d, l+1, x)
			}
		}
	}
}

// U4a: the least that a domain can run in so many ticks, wherever they begin.
func TestSupply(t *testing.T) {
	end := of(10, on(slot(0, 9, 1, 0)))
	over := of(10, on(slot(0, 1, 4, 0)), on(slot(0, 3, 4, 1)))
	round := of(10, on(slot(0, 0, 2, 0), slot(0, 8, 2, 0)))
	for _, c := range []struct {
		what   string
		tab    api.Table
		domain int
		n      uint64
		want   uint64
	}{
		{"no tick", two(), 0, 0, 0},
		{"from behind the slots up to the next frame", two(), 0, 5, 0},
		{"a tick more", two(), 0, 6, 1},
		{"two more", two(), 0, 7, 2},
		{"a frame", two(), 0, 10, 6},
		{"more than a frame", two(), 0, 16, 7},
		{"many frames", two(), 0, 1e14, 6e13},
		{"as many ticks as may be", two(), 0, supply, supply/10*6 + 1},
		{"as many ticks as may be, less a few", two(), 1, supply - 6, supply / 10 * 4},
		{"no slot", two(), 2, supply, 0},
		{"no slot at all", of(10, nil), 0, supply, 0},
		{"one slot at the frame's end, short of it", end, 0, 9, 0},
		{"one slot at the frame's end", end, 0, 10, 1},
		{"one slot at the frame's end, nearly twice", end, 0, 19, 1},
		{"one slot at the frame's end, twice", end, 0, 20, 2},
		{"its pad is not counted", of(10, on(slot(0, 0, 10, 4))), 0, 4, 0},
		{"its pad is not counted: a tick more", of(10, on(slot(0, 0, 10, 4))), 0, 5, 1},
		{"slots that overlap count twice", over, 0, 10, 7},
		{"slots that overlap: the gap goes round", over, 0, 5, 0},
		{"slots that overlap: one tick of one P", over, 0, 6, 1},
		{"slots that overlap: all but a tick that both Ps have", over, 0, 9, 5},
		{"slots that touch round the frame's end", round, 0, 6, 0},
		{"slots that touch round the frame's end: a tick more", round, 0, 7, 1},
		{"a whole frame", of(10, on(slot(0, 0, 10, 0))), 0, 7, 7},
		{"a whole frame on two Ps", of(10, on(slot(0, 0, 10, 0)), on(slot(0, 0, 10, 0))), 0, 7, 14},
		{"a frame of one tick", of(1, on(slot(0, 0, 1, 0))), 0, supply, supply},
		{"the longest frame", of(frames, on(slot(0, frames-1, 1, 0))), 0, frames - 1, 0},
		{"the longest frame", of(frames, on(slot(0, 0, 1, 0))), 0, frames, 1},
		{"the longest frame", of(frames, on(slot(0, 0, frames, 1))), 0, frames - 1, frames - 2},
		{"as many slots as may be", greatest(), 0, frames / 64, procs * 61},
		{"as many slots as may be, as many ticks", greatest(), 15, supply, supply / 1024 * procs * 61},
	} {
		if x := supplied(t, c.tab, c.domain, c.n); x != c.want {
			t.Errorf("%s: Supply(%d, %d): %d, not %d", c.what, c.domain, c.n, x, c.want)
		}
	}
	all := of(frames)
	for range procs {
		all.Procs = append(all.Procs, on(slot(9, 0, frames, 0)))
	}
	if x := supplied(t, all, 9, supply); x != procs*supply {
		t.Errorf("all Ps, all the time: Supply %d", x)
	}
}

// U4a: beyond 2^48 ticks nothing is told, also of a domain without a slot.
func TestSupplyOfTooManyTicks(t *testing.T) {
	for n, e := range map[uint64]api.Errno{supply - 1: api.OK, supply: api.OK, supply + 1: api.ErrArg, 1 << 63: api.ErrArg, last - 1: api.ErrArg, last: api.ErrArg} {
		for _, d := range []int{0, 1, 15} {
			if x, f := table.Supply(two(), d, n); f != e || e != api.OK && x != 0 {
				t.Errorf("Supply(%d, %d): %d, %d, not error %d", d, n, x, f, e)
			}
		}
	}
}
