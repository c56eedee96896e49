package table_test

import (
	"testing"

	"rota/api"
)

// U2: each tick of a frame of the chapter's table, tick by tick.
func TestATick(t *testing.T) {
	first := []atP{
		{0, 3, false}, {0, 2, false}, {0, 1, false}, {0, 0, true},
		{1, 4, false}, {1, 3, false}, {1, 2, false}, {1, 1, false}, {1, 0, false}, {1, 0, true},
	}
	second := []atP{
		{-1, 0, false}, {-1, 0, false}, {0, 3, false}, {0, 2, false}, {0, 1, true},
		{-1, 0, false}, {-1, 0, false}, {-1, 0, false}, {-1, 0, false}, {-1, 0, false},
	}
	for p, l := range [][]atP{first, second} {
		for now := range uint64(50) {
			if x := ask(t, two(), now, p); x != l[now%10] {
				t.Errorf("tick %d, P %d: %+v, not %+v", now, p, x, l[now%10])
			}
		}
	}
}

// U2: the edges of slots: their first and last ticks, those about their pads, and those ahead of and behind them.
func TestAtEdgesOfSlots(t *testing.T) {
	for _, c := range []struct {
		what string
		tab  api.Table
		tick uint64
		want atP
	}{
		{"a slot of one tick", of(3, on(slot(4, 1, 1, 0))), 1, atP{4, 1, true}},
		{"ahead of it", of(3, on(slot(4, 1, 1, 0))), 0, atP{-1, 0, false}},
		{"behind it", of(3, on(slot(4, 1, 1, 0))), 2, atP{-1, 0, false}},
		{"a frame of one tick", of(1, on(slot(15, 0, 1, 0))), 7, atP{15, 1, true}},
		{"a whole frame, at its beginning", of(9, on(slot(0, 0, 9, 0))), 18, atP{0, 9, false}},
		{"a whole frame, at its end", of(9, on(slot(0, 0, 9, 0))), 17, atP{0, 1, true}},
		{"a whole frame that is all pad but a tick", of(9, on(slot(0, 0, 9, 8))), 9, atP{0, 1, false}},
		{"its pad", of(9, on(slot(0, 0, 9, 8))), 10, atP{0, 0, false}},
		{"its pad's end", of(9, on(slot(0, 0, 9, 8))), 17, atP{0, 0, true}},
		{"slots that touch, the end of the first", of(9, on(slot(0, 2, 3, 0), slot(0, 5, 2, 1))), 4, atP{0, 1, true}},
		{"slots that touch, the beginning of the second", of(9, on(slot(0, 2, 3, 0), slot(0, 5, 2, 1))), 5, atP{0, 1, false}},
		{"slots that touch, the end of the second", of(9, on(slot(0, 2, 3, 0), slot(0, 5, 2, 1))), 6, atP{0, 0, true}},
		{"slots that touch round the frame's end", of(9, on(slot(3, 0, 2, 0), slot(3, 7, 2, 0))), 8, atP{3, 1, true}},
		{"slots that touch round the frame's end, behind it", of(9, on(slot(3, 0, 2, 0), slot(3, 7, 2, 0))), 9, atP{3, 2, false}},
		{"the longest frame, at its end", of(frames, on(slot(0, 0, frames, 1))), frames - 1, atP{0, 0, true}},
		{"the longest frame, behind its end", of(frames, on(slot(0, 0, frames, 1))), frames, atP{0, frames - 1, false}},
	} {
		if x := ask(t, c.tab, c.tick, 0); x != c.want {
			t.Errorf("%s: tick %d: %+v, not %+v", c.what, c.tick, x, c.want)
		}
	}
}

// U2: the ticks 0 and 2^64 - 1, whose place in a frame of 10 is 5, and whose frame the clock's end cuts off.
func TestAtTheClocksEnds(t *testing.T) {
	tab := of(10, on(slot(0, 0, 1, 0), slot(1, 5, 4, 1)))
	if x := ask(t, tab, 0, 0); x != (atP{0, 1, true}) {
		t.Errorf("tick 0: %+v", x)
	}
	if x := ask(t, tab, last, 0); x != (atP{1, 3, false}) {
		t.Errorf("the last tick: %+v", x)
	}
	if x := ask(t, tab, last-1, 0); x != (atP{-1, 0, false}) {
		t.Errorf("the last tick but one: %+v", x)
	}
	if x := ask(t, of(frames, on(slot(2, 0, frames, 0))), last, 0); x != (atP{2, 1, true}) {
		t.Errorf("the last tick, where a frame ends with the clock: %+v", x)
	}
}

// U2: each P by itself, the last one too.
func TestAtEachP(t *testing.T) {
	tab := of(procs)
	for p := range procs {
		tab.Procs = append(tab.Procs, on(slot(p%domains, uint64(p), 1, 0)))
	}
	for now := range uint64(2 * procs) {
		for p := range procs {
			want := atP{-1, 0, false}
			if uint64(p) == now%procs {
				want = atP{p % domains, 1, true}
			}
			if x := ask(t, tab, now, p); x != want {
				t.Errorf("tick %d, P %d: %+v, not %+v", now, p, x, want)
			}
		}
	}
}

// U2: the last of as many slots as there may be.
func TestAtTheLastSlot(t *testing.T) {
	tab := greatest()
	for _, p := range []int{0, 31, 63} {
		if x := ask(t, tab, frames-64, p); x != (atP{15, 61, false}) {
			t.Errorf("P %d, the beginning: %+v", p, x)
		}
		if x := ask(t, tab, frames-1, p); x != (atP{15, 0, true}) {
			t.Errorf("P %d, the end: %+v", p, x)
		}
	}
}
