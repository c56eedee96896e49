package table_test

import (
	"slices"
	"testing"

	"rota/api"
)

// U3: Has tells the Ps by rising numbers, also those whose slot is in its pad.
func TestHas(t *testing.T) {
	for now, l := range [][]int{{0}, {0}, {0, 1}, {0, 1}, {1}, nil, nil, nil, nil, nil} {
		for _, at := range []uint64{uint64(now), uint64(now) + 10, uint64(now) + last - 15} {
			if x := has(t, two(), at, 0); !slices.Equal(x, l) {
				t.Errorf("Has(%d, 0): %v, not %v", at, x, l)
			}
		}
	}
	for now, l := range [][]int{nil, nil, nil, nil, {0}, {0}, {0}, {0}, {0}, {0}} {
		if x := has(t, two(), uint64(now), 1); !slices.Equal(x, l) {
			t.Errorf("Has(%d, 1): %v, not %v", now, x, l)
		}
	}
	if x := has(t, two(), 2, 15); len(x) != 0 {
		t.Errorf("Has of a domain without a slot: %v", x)
	}
}

// U3: Has of all Ps, of every other one, and at the clock's ends.
func TestHasOfManyPs(t *testing.T) {
	tab := of(2)
	var all, even []int
	for p := range procs {
		l := on(slot(3, 1, 1, 0))
		all = append(all, p)
		if p%2 == 0 {
			l = on(slot(3, 0, 1, 0), slot(3, 1, 1, 0))
			even = append(even, p)
		}
		tab.Procs = append(tab.Procs, l)
	}
	for at, l := range map[uint64][]int{0: even, 1: all, last: all, last - 1: even} {
		if x := has(t, tab, at, 3); !slices.Equal(x, l) {
			t.Errorf("Has(%d, 3): %v, not %v", at, x, l)
		}
	}
}

// U3: Ticks counts each tick once, however many Ps the domain has at it, and pads too.
func TestTicks(t *testing.T) {
	over := of(10, on(slot(0, 1, 4, 0)), on(slot(0, 3, 4, 1)), on(slot(0, 4, 1, 0), slot(0, 7, 3, 0))) // 1 to 9
	in := of(10, on(slot(0, 0, 8, 7)), on(slot(0, 2, 2, 0), slot(0, 6, 1, 0)))                         // 0 to 7
	end := of(10, on(slot(0, 9, 1, 0)))
	for _, c := range []struct {
		what   string
		tab    api.Table
		n      uint64
		domain int
		want   uint64
	}{
		{"no tick", two(), 0, 0, 0},
		{"one tick", two(), 1, 0, 1},
		{"half a frame", two(), 5, 0, 5},
		{"half a frame of a domain that comes later", two(), 4, 1, 0},
		{"a tick more", two(), 5, 1, 1},
		{"a frame", two(), 10, 1, 6},
		{"more than a frame", two(), 13, 0, 8},
		{"two frames", two(), 20, 0, 10},
		{"all ticks but the last one", two(), last, 0, last/10*5 + 5},
		{"all ticks but the last one, of the other domain", two(), last, 1, last/10*6 + 1},
		{"slots that overlap", over, 10, 0, 9},
		{"slots that overlap, some frames", over, 34, 0, 30},
		{"slots in one another", in, 10, 0, 8},
		{"slots in one another, a part", in, 7, 0, 7},
		{"slots in one another, many frames", in, 1e15, 0, 8e14},
		{"a slot at the frame's end, short of it", end, 9, 0, 0},
		{"a slot at the frame's end", end, 10, 0, 1},
		{"a slot at the frame's end, all ticks", end, last, 0, last / 10},
		{"no slot", two(), last, 2, 0},
		{"no slot at all", of(10, nil), last, 0, 0},
		{"a whole frame", of(7, on(slot(5, 0, 7, 6))), last, 5, last},
		{"a frame of one tick", of(1, on(slot(5, 0, 1, 0)), on(slot(5, 0, 1, 0))), last, 5, last},
		{"a frame of one tick", of(1, on(slot(5, 0, 1, 0)), on(slot(5, 0, 1, 0))), 0, 5, 0},
		{"as many slots as may be", greatest(), frames, 15, frames / 16},
	} {
		if x := ticks(t, c.tab, c.n, c.domain); x != c.want {
			t.Errorf("%s: Ticks(%d, %d): %d, not %d", c.what, c.n, c.domain, x, c.want)
		}
	}
}

// U3: Share adds up what is ahead of the pads, on all Ps; Longest is the most of it in one slot.
func TestShareAndLongest(t *testing.T) {
	for _, c := range []struct {
		what           string
		tab            api.Table
		domain         int
		share, longest uint64
	}{
		{"the chapter's table", two(), 0, 6, 3},
		{"the chapter's table", two(), 1, 4, 4},
		{"the chapter's table, no slot", two(), 2, 0, 0},
		{"the chapter's table, no slot of the last domain", two(), 15, 0, 0},
		{"no slot at all", of(10, nil, nil), 0, 0, 0},
		{"all pad but a tick", of(10, on(slot(0, 0, 10, 9))), 0, 1, 1},
		{"slots that touch are two", of(10, on(slot(0, 0, 5, 0), slot(0, 5, 4, 0))), 0, 9, 5},
		{"the longest window is not the longest run", of(10, on(slot(0, 0, 6, 5), slot(0, 6, 2, 0))), 0, 3, 2},
		{"the longest first", of(10, on(slot(0, 0, 6, 1), slot(0, 6, 4, 1))), 0, 8, 5},
		{"slots of several Ps that overlap count each", of(10, on(slot(0, 0, 6, 1)), on(slot(0, 0, 6, 2)), on(slot(0, 3, 7, 0))), 0, 16, 7},
		{"a whole frame", of(frames, on(slot(0, 0, frames, 0))), 0, frames, frames},
		{"as many slots as may be", greatest(), 0, procs * slots / domains * 61, 61},
	} {
		if x, y := share(t, c.tab, c.domain), longest(t, c.tab, c.domain); x != c.share || y != c.longest {
			t.Errorf("%s: domain %d: Share %d, Longest %d, not %d, %d", c.what, c.domain, x, y, c.share, c.longest)
		}
	}
	all := of(frames)
	for range procs {
		all.Procs = append(all.Procs, on(slot(9, 0, frames, 0)))
	}
	if x := share(t, all, 9); x != procs*frames {
		t.Errorf("all Ps, all the time: Share %d", x)
	}
}
