package slab_test

import (
	"slices"
	"testing"

	"rota/api"
	"rota/slab"
)

// TestNoNameTwice: L6: whichever P takes and gives, each name is answered once.
func TestNoNameTwice(t *testing.T) {
	s := fresh(t, 100, 3)
	var had, seen = []api.Gid{}, map[api.Gid]int{}
	for n := range 20000 {
		jump := n * 7919 % 10007
		// More are taken than are given back, till the slab is full; then half of them go.
		if jump%5 > 1 || len(had) == 0 {
			g, e := s.Take(jump % 3)
			if e == api.OK {
				seen[g]++
				had = append(had, g)
				if seen[g] > 1 || !s.Alive(g) || g.Slot < 0 || g.Slot >= 100 || g.Gen < 1 {
					t.Fatalf("Take: %v, %d times, alive: %v", g, seen[g], s.Alive(g))
				}
				continue
			}
			for _, g := range had[:50] {
				gives(t, s, jump%3, g, api.OK)
			}
			had = had[50:]
		} else {
			at := jump % len(had)
			gives(t, s, n%3, had[at], api.OK)
			if s.Alive(had[at]) {
				t.Fatalf("Alive(%v) behind Give of it: true", had[at])
			}
			had = slices.Delete(had, at, at+1)
		}
		if s.Live() != len(had) {
			t.Fatalf("Live: %d, not %d", s.Live(), len(had))
		}
	}
	if len(seen) < 5000 {
		t.Errorf("%d names: too few to tell anything", len(seen))
	}
}

// TestTheLimitIsTheLimit: L7: whichever lists the free slots stand in, any P takes all of them, and then is refused.
func TestTheLimitIsTheLimit(t *testing.T) {
	retired := state(80, 80, span(0, 20), span(20, 40), nil, span(45, 50))
	for _, slot := range []int{60, 79} {
		retired.Gens[slot], retired.Alive[slot] = api.MaxGen, false
	}
	retired.Gens[61] = api.MaxGen
	for _, c := range []struct {
		what string
		st   api.SlabState
		free int // of slots that were not made too
	}{
		{"none was made", state(80, 0, nil, nil, nil, nil), 80},
		{"all in the list", state(80, 80, span(0, 80), nil, nil, nil), 80},
		{"in caches", state(80, 80, nil, span(0, 30), span(30, 60), span(60, 80)), 80},
		{"one in the first cache", state(80, 80, nil, []int{7}, nil, nil), 1},
		{"one in the last cache", state(80, 80, nil, nil, nil, []int{7}), 1},
		{"everywhere", state(80, 70, span(0, 10), span(10, 20), nil, span(20, 30)), 40},
		{"the fullest caches", state(126, 126, nil, span(0, 63), nil, span(63, 126)), 126},
		{"retired ones", retired, 45},
		{"none", state(80, 80, nil, nil, nil, nil), 0},
		{"the greatest limit", state(4096, 4000, span(50, 3000), span(0, 50), span(3000, 3060), nil), 3060 + 96},
	} {
		for p := range 3 {
			s := load(t, c.st)
			live := s.Live()
			for n := range c.free {
				if g, e := s.Take(p); e != api.OK || !s.Alive(g) || s.Live() != live+n+1 {
					t.Fatalf("%s: Take(%d), the one behind %d: %v, %d, %d alive", c.what, p, n, g, e, s.Live())
				}
			}
			full := s.State()
			for p := range 3 {
				refuses(t, s, p, api.ErrFull)
			}
			tells(t, c.what, s, full)
		}
	}
}

// freeOnce tells whether no slot is in two free lists, none of them alive, and all free ones there.
func freeOnce(st api.SlabState) bool {
	all := slices.Sorted(slices.Values(slices.Concat(slices.Concat(st.Caches...), st.Free)))
	var want []int
	for slot, alive := range st.Alive {
		if !alive && st.Gens[slot] < api.MaxGen {
			want = append(want, slot)
		}
	}
	return slices.Equal(all, want)
}

// TestFreeLists: L8, L9: at each call, and behind a Flush of each P, in any order.
func TestFreeLists(t *testing.T) {
	for _, procs := range []int{1, 2, 7, api.MaxProcs} {
		s := fresh(t, 300, procs)
		var had []api.Gid
		for n := range 2000 {
			jump := n * 613 % 1009
			if n/250%2 == 0 {
				if g, e := s.Take(jump % procs); e == api.OK {
					had = append(had, g)
				}
			} else if len(had) > 0 {
				gives(t, s, jump%procs, had[0], api.OK)
				had = had[1:]
			}
			st := s.State()
			if !freeOnce(st) {
				t.Fatalf("%d Ps, call %d: %v", procs, n, st)
			}
			if n%100 == 99 {
				flushed(t, load(t, st), st)
			}
		}
	}
}

// flushed flushes each P, from the last one on: all free slots stand in the list then, in the order of the flushes.
func flushed(t *testing.T, s *slab.Slab, st api.SlabState) {
	t.Helper()
	want := st.Free
	for p := len(st.Caches) - 1; p >= 0; p-- {
		flushes(t, s, p, api.OK)
		want = append(want, st.Caches[p]...)
		st.Caches[p] = nil
	}
	st.Free = want
	tells(t, "Flush of each P", s, st)
	if !freeOnce(s.State()) {
		t.Errorf("Flush of each P: %v", s.State())
	}
}
