package cells_test

import (
	"slices"
	"sync"
	"testing"

	"rota/api"
	"rota/cells"
)

// spoil writes something over a list, its spare room too.
func spoil[T any](l []T, with T) {
	l = l[:cap(l)]
	for i := range l {
		l[i] = with
	}
}

// odd is an access that none of the tests' logs has.
func odd() api.Access { return api.Access{Cell: -77, Kind: -77, Before: -77, After: -76, Wrote: true} }

// TestValuesAreNotKept: R3: values that are written over do not change the cells, nor other values, and cells that go on do not change values.
func TestValuesAreNotKept(t *testing.T) {
	for _, n := range []int{0, 1, 2, limit} {
		c := holding(t, differing(n)...)
		a, b := c.Values(), c.Values()
		spoil(a, -77)
		tells(t, "Values, written over", c, differing(n)...)
		for i := range n {
			does(t, c, add(i, 1), wrote(i, api.AccAdd, int64(1000+i), int64(1001+i)))
		}
		if !slices.Equal(b, differing(n)) {
			t.Errorf("values became %v", b)
		}
		_ = append(c.Values(), 5)
		for i := range n {
			does(t, c, load(i), left(i, api.AccLoad, int64(1001+i)))
		}
	}
}

// TestReplayLeavesWhatItIsGiven: R3: neither values nor the log change, nor what lies behind their ends, whether or not the log may be; and the answer is new memory.
func TestReplayLeavesWhatItIsGiven(t *testing.T) {
	refused := append(goodLog(), left(2, api.AccLoad, 0))
	for _, l := range [][]api.Access{nil, goodLog()[:1], goodLog(), refused, append(goodLog(), left(0, 9, 7))} {
		for _, spare := range []int{0, 1, 50} {
			room := slices.Concat([]int64{1, 2}, differing(spare))
			log := slices.Concat(l, make([]api.Access, spare))
			wantRoom, wantLog := slices.Clone(room), slices.Clone(log)
			out, _, e := cells.Replay(room[:2], log[:len(l)])
			if e != api.OK != (out == nil) {
				t.Fatalf("Replay(%v): %v, %d", l, out, e)
			}
			want := slices.Clone(out)
			_ = append(out, 5)
			if !slices.Equal(room, wantRoom) || !slices.Equal(log, wantLog) {
				t.Errorf("%v, %v became %v, %v", wantRoom, wantLog, room, log)
			}
			spoil(room, -77)
			spoil(log, odd())
			if !slices.Equal(out, want) {
				t.Errorf("the answer %v became %v", want, out)
			}
		}
	}
}

// TestReplayAnswersApart: R3: an answer that is written over changes neither values nor another answer, where there are no values, too.
func TestReplayAnswersApart(t *testing.T) {
	for _, n := range []int{0, 1, 2, limit, limit + 1} {
		room := differing(n + 3)
		var l []api.Access
		if n > 0 {
			l = []api.Access{wrote(n-1, api.AccStore, room[n-1], 4)}
		}
		a, _, _ := cells.Replay(room[:n], l)
		b, _, _ := cells.Replay(room[:n], l)
		want := slices.Clone(b)
		spoil(a, -77)
		_ = append(a, 5)
		if !slices.Equal(room, differing(n+3)) || !slices.Equal(b, want) {
			t.Errorf("an answer, written over, changed %v, or %v", room, b)
		}
	}
}

// TestFromLeavesWhatItIsGiven: R3: so does From, whose answers are apart.
func TestFromLeavesWhatItIsGiven(t *testing.T) {
	for n := range len(goodLog()) + 1 {
		log := goodLog()
		a, b := cells.From(log[:n]), cells.From(log[:n])
		want := slices.Clone(b)
		spoil(a, -77)
		if !slices.Equal(log, goodLog()) || !slices.Equal(b, want) {
			t.Errorf("%v became %v, or %v became %v", goodLog(), log, want, b)
		}
		spoil(log, odd())
		if !slices.Equal(b, want) {
			t.Errorf("the answer %v became %v", want, b)
		}
	}
}

// TestRoomBehindEnds: R3: what lies behind a list's end is no cell, and no access.
func TestRoomBehindEnds(t *testing.T) {
	values := []int64{1, 2}
	breaks(t, values[:1], []api.Access{left(1, api.AccLoad, 2)}, 0, api.ErrCell)
	log := append(goodLog(), odd())
	replays(t, values, log[:1], 1, 2)
	comes(t, log[:1], -1)
}

// TestCellsAreApart: R4: what is done with some is not seen in others.
func TestCellsAreApart(t *testing.T) {
	a, b := holding(t, 1, 2), holding(t, 1, 2)
	for _, x := range []call{store(0, 5), swap(1, 2, 7), add(1, 3)} {
		x.on(a)
	}
	tells(t, "the first", a, 5, 10)
	tells(t, "the second", b, 1, 2)
	tells(t, "new ones", fresh(t, 2), 0, 0)
	does(t, b, swap(0, 1, 8), wrote(0, api.AccSwap, 1, 8))
	tells(t, "the first", a, 5, 10)
}

// TestRefusedCallsAreNotRemembered: R2, R4: what was refused ahead is not seen in any later answer.
func TestRefusedCallsAreNotRemembered(t *testing.T) {
	c := fresh(t, 1)
	for _, i := range noCells(1) {
		for _, x := range eachCall(i) {
			refuses(t, c, x, api.ErrCell)
		}
	}
	does(t, c, load(0), left(0, api.AccLoad, 0))
	does(t, c, swap(0, 0, 2), wrote(0, api.AccSwap, 0, 2))
	tells(t, "behind refused calls", c, 2)
}

// TestOneAnswer: R4: the same arguments have the same answer, asked by several goroutines at once, each with its own cells.
func TestOneAnswer(t *testing.T) {
	log, values := goodLog(), []int64{1, 2}
	var group sync.WaitGroup
	for range 8 {
		group.Go(func() {
			for range 100 {
				c := holding(t, values...)
				does(t, c, load(0), log[0])
				does(t, c, store(1, 5), log[1])
				does(t, c, swap(0, 1, 7), log[2])
				does(t, c, swap(1, 2, 7), log[3])
				tells(t, "one of several", c, 7, 5)
				replays(t, values, log[:4], 7, 5)
				comes(t, log[:4], -1, -1, -1, 1)
			}
		})
	}
	group.Wait()
}
