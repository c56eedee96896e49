package table_test

import (
	"testing"

	"rota/api"
	"rota/table"
)

// checked is what Check tells.
type checked struct {
	p, slot int
	e       api.Errno
}

// fine is what Check tells where nothing is wrong.
var fine = checked{0, 0, api.OK}

// check asks Check.
func check(t api.Table, domains int) checked {
	p, at, e := table.Check(t, domains)
	return checked{p, at, e}
}

// checks holds Check of a table and so many domains against want.
func checks(t *testing.T, what string, tab api.Table, domains int, want checked) {
	t.Helper()
	if x := check(tab, domains); x != want {
		t.Errorf("%s: Check: %+v, not %+v", what, x, want)
	}
}

// empty is so many Ps that nobody has.
func empty(frame uint64, n int) api.Table { return of(frame, make([][]api.Slot, n)...) }

// U1: Check takes tables that may be.
func TestCheckOfWhatMayBe(t *testing.T) {
	for _, tab := range someTables() {
		checks(t, "a table that may be", tab, domains, fine)
	}
	checks(t, "the greatest table", greatest(), domains, fine)
}

// U1: the number of domains is 1 to 16.
func TestCheckOfNumbersOfDomains(t *testing.T) {
	for d, e := range map[int]api.Errno{
		-1 << 63: api.ErrArg, -1: api.ErrArg, 0: api.ErrArg, 1: api.OK, 2: api.OK, 15: api.OK, 16: api.OK,
		17: api.ErrArg, 1<<32 + 1: api.ErrArg, 1<<63 - 1: api.ErrArg,
	} {
		checks(t, "one slot of domain 0", of(10, on(slot(0, 0, 4, 1))), d, checked{0, 0, e})
	}
}

// U1: a frame has 1 to 65536 ticks.
func TestCheckOfFrames(t *testing.T) {
	for frame, e := range map[uint64]api.Errno{
		0: api.ErrFrame, 1: api.OK, 2: api.OK, 65535: api.OK, 65536: api.OK, 65537: api.ErrFrame, 1 << 32: api.ErrFrame,
		1<<63 + 1: api.ErrFrame, last: api.ErrFrame,
	} {
		checks(t, "a P that nobody has", empty(frame, 1), 1, checked{0, 0, e})
		checks(t, "a slot at the frame's beginning", of(frame, nil, on(slot(0, 0, 1, 0))), 1, checked{0, 0, e})
	}
}

// U1: there are 1 to 64 Ps.
func TestCheckOfNumbersOfPs(t *testing.T) {
	for n, e := range map[int]api.Errno{0: api.ErrFrame, 1: api.OK, 2: api.OK, 63: api.OK, 64: api.OK, 65: api.ErrFrame, 1000: api.ErrFrame} {
		checks(t, "Ps that nobody has", empty(10, n), 16, checked{0, 0, e})
	}
	tab := empty(10, 64)
	tab.Procs[63] = on(slot(1, 0, 4, 1))
	checks(t, "the last P's slot", tab, 2, fine)
	checks(t, "the last P's slot", tab, 1, checked{63, 0, api.ErrOwner})
}

// U1: a P has at most 1024 slots, each P by itself.
func TestCheckOfNumbersOfSlots(t *testing.T) {
	for n, e := range map[int]api.Errno{1023: api.OK, 1024: api.OK, 1025: api.ErrFull, 5000: api.ErrFull} {
		l := row(n, 4, 0)
		checks(t, "one P", of(frames, l), 16, checked{0, 0, e})
		want := checked{2, 0, e}
		if e == api.OK {
			want.p = 0
		}
		checks(t, "the third P", of(frames, row(1024, 4, 0), nil, l, row(1024, 8, 0)), 16, want)
	}
}

// U1: a window that layer 1 takes for one of the frame may be, another one may not.
func TestCheckOfWindows(t *testing.T) {
	for _, c := range []struct {
		start, length uint64
		e             api.Errno
	}{
		{0, 1, api.OK}, {0, 10, api.OK}, {9, 1, api.OK}, {3, 7, api.OK},
		{0, 0, api.ErrWindow}, {5, 0, api.ErrWindow}, {10, 0, api.ErrWindow},
		{0, 11, api.ErrWindow}, {9, 2, api.ErrWindow}, {10, 1, api.ErrWindow}, {1, 10, api.ErrWindow},
		{last, 1, api.ErrWindow}, {1, last, api.ErrWindow}, {last, last, api.ErrWindow}, {1 << 63, 1 << 63, api.ErrWindow},
		{last - 3, 5, api.ErrWindow},
	} {
		want := checked{0, 0, c.e}
		checks(t, "one slot", of(10, on(slot(0, c.start, c.length, 0))), 1, want)
		if c.e != api.OK {
			want = checked{1, 2, c.e}
			checks(t, "a slot behind others", of(10, nil, on(slot(0, 0, 1, 0), slot(0, 1, 1, 0), slot(0, c.start, c.length, 0))), 1, want)
		}
	}
	for frame := uint64(1); frame <= 65536; frame *= 2 {
		checks(t, "a slot over a whole frame", of(frame, on(slot(0, 0, frame, 0))), 1, fine)
		checks(t, "a slot longer than the frame", of(frame, on(slot(0, 0, frame+1, 0))), 1, checked{0, 0, api.ErrWindow})
	}
}

// U1: a pad is below its slot's length.
func TestCheckOfPads(t *testing.T) {
	for _, length := range []uint64{1, 2, 3, 10} {
		for pad, e := range map[uint64]api.Errno{
			0: api.OK, length - 1: api.OK, length: api.ErrWindow, length + 1: api.ErrWindow, 11: api.ErrWindow, last: api.ErrWindow, 1 << 63: api.ErrWindow,
		} {
			checks(t, "one slot", of(10, on(slot(0, 0, length, pad))), 1, checked{0, 0, e})
		}
	}
}

// U1: a slot's domain is one of those that there are.
func TestCheckOfOwners(t *testing.T) {
	for n := 1; n <= 16; n++ {
		for _, d := range []int{-1 << 63, -1, 0, n - 1, n, n + 1, 16, 1<<63 - 1} {
			want := fine
			if d < 0 || d >= n {
				want = checked{1, 1, api.ErrOwner}
			}
			checks(t, "the second P's second slot", of(10, on(slot(0, 0, 9, 0)), on(slot(0, 0, 4, 0), slot(d, 5, 2, 1))), n, want)
		}
	}
}

// U1: a slot begins where the one ahead of it ends, or later; those of other Ps do not count.
func TestCheckOfSlotsThatMeet(t *testing.T) {
	for _, c := range []struct {
		start, length uint64
		e             api.Errno
	}{
		{0, 1, api.ErrMeet}, {0, 2, api.ErrMeet}, {1, 1, api.ErrMeet}, {1, 3, api.ErrMeet}, {2, 1, api.ErrMeet}, {2, 5, api.ErrMeet},
		{4, 1, api.ErrMeet}, {5, 1, api.OK}, {5, 5, api.OK}, {6, 1, api.OK}, {9, 1, api.OK}, {0, 10, api.ErrMeet},
	} {
		want := fine
		if c.e != api.OK {
			want = checked{1, 1, c.e}
		}
		l := on(slot(0, 2, 3, 2), slot(1, c.start, c.length, 0))
		checks(t, "behind a slot of the places 2 to 4", of(10, on(slot(0, 0, 10, 0)), l), 2, want)
		checks(t, "behind a slot of the same domain", of(10, nil, on(slot(1, 2, 3, 0), slot(1, c.start, c.length, 0))), 2, want)
	}
	checks(t, "a third that meets the second", of(10, on(slot(0, 0, 1, 0), slot(0, 4, 3, 0), slot(0, 6, 1, 0))), 1, checked{0, 2, api.ErrMeet})
	checks(t, "a third that lies between them", of(10, on(slot(0, 0, 1, 0), slot(0, 4, 3, 0), slot(0, 2, 1, 0))), 1, checked{0, 2, api.ErrMeet})
}

// U1, R2: which of several is told: by the number of the P, of the slot, and then of the errors.
func TestCheckTellsTheFirst(t *testing.T) {
	window, owner, meet := slot(0, 8, 3, 0), slot(7, 5, 1, 0), slot(0, 0, 1, 0)
	good := slot(0, 0, 4, 0)
	long := row(1025, 1, 1) // too many, each of a pad that may not be
	for _, c := range []struct {
		what    string
		tab     api.Table
		domains int
		want    checked
	}{
		{"all is wrong", of(0, long), 0, checked{0, 0, api.ErrArg}},
		{"all is wrong but the number of domains", of(0, long), 1, checked{0, 0, api.ErrFrame}},
		{"no P, and no domain", of(10), 17, checked{0, 0, api.ErrArg}},
		{"too many Ps, and their slots", alike(65, window), 1, checked{0, 0, api.ErrFrame}},
		{"too many slots, the first one wrong", of(10, nil, long), 1, checked{1, 0, api.ErrFull}},
		{"too many slots behind a P that is wrong", of(10, on(good, meet), long), 1, checked{0, 1, api.ErrMeet}},
		{"too many slots ahead of a P that is wrong", of(10, nil, long, on(window)), 1, checked{1, 0, api.ErrFull}},
		{"a meeting ahead of a window", of(10, on(good, meet, window)), 1, checked{0, 1, api.ErrMeet}},
		{"an owner ahead of a window", of(10, on(good, owner, window)), 1, checked{0, 1, api.ErrOwner}},
		{"a meeting ahead of an owner", of(10, on(good, meet, owner)), 1, checked{0, 1, api.ErrMeet}},
		{"a P ahead of another one", of(10, on(good, meet), on(window)), 1, checked{0, 1, api.ErrMeet}},
		{"a P behind a good one", of(10, on(good), on(good, good), on(window)), 1, checked{1, 1, api.ErrMeet}},
		{"window and owner", of(10, on(slot(1, 8, 3, 0))), 1, checked{0, 0, api.ErrWindow}},
		{"pad and owner", of(10, on(slot(1, 5, 3, 3))), 1, checked{0, 0, api.ErrWindow}},
		{"window and meeting", of(10, on(good, slot(0, 3, 0, 0))), 1, checked{0, 1, api.ErrWindow}},
		{"pad and meeting", of(10, on(good, slot(0, 3, 1, 1))), 1, checked{0, 1, api.ErrWindow}},
		{"owner and meeting", of(10, on(good, slot(1, 3, 1, 0))), 1, checked{0, 1, api.ErrOwner}},
		{"window, owner and meeting", of(10, on(good, slot(1, 3, 8, 0))), 1, checked{0, 1, api.ErrWindow}},
	} {
		checks(t, c.what, c.tab, c.domains, c.want)
	}
}

// alike is so many Ps with one slot each.
func alike(n int, s api.Slot) api.Table {
	t := empty(10, n)
	for p := range t.Procs {
		t.Procs[p] = on(s)
	}
	return t
}

// U1: each place of a P's slots, and each P, is told by its number.
func TestCheckTellsThePlace(t *testing.T) {
	for p := range procs {
		for _, at := range []int{0, 1, 511, 1023} {
			tab := greatest()
			tab.Procs[p][at].Domain = 16
			checks(t, "an owner", tab, 16, checked{p, at, api.ErrOwner})
			tab.Procs[p][at].Pad = frames / slots
			checks(t, "a pad", tab, 16, checked{p, at, api.ErrWindow})
		}
	}
}
