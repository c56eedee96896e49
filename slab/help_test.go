package slab_test

import (
	"slices"
	"testing"

	"rota/api"
	"rota/slab"
)

// name is a goroutine's.
func name(slot, gen int) api.Gid { return api.Gid{Slot: slot, Gen: gen} }

// span is the slots from one to another, that one not among them.
func span(from, to int) []int {
	var l []int
	for slot := from; slot < to; slot++ {
		l = append(l, slot)
	}
	return l
}

// lists is some of them.
func lists(l ...[]int) [][]int { return l }

// state is one of so many slots, each of another generation (its number and ten), those that stand in a free list not alive and all others alive.
func state(limit, made int, free []int, caches ...[]int) api.SlabState {
	s := api.SlabState{Limit: limit, Caches: caches, Free: free}
	lying := slices.Concat(slices.Concat(caches...), free)
	for slot := range made {
		s.Gens = append(s.Gens, slot+10)
		s.Alive = append(s.Alive, !slices.Contains(lying, slot))
	}
	return s
}

// fresh is a new slab.
func fresh(t *testing.T, limit, procs int) *slab.Slab {
	t.Helper()
	s, e := slab.New(limit, procs)
	if e != api.OK || s == nil {
		t.Fatalf("New(%d, %d): %d", limit, procs, e)
	}
	return s
}

// load is a slab of a state.
func load(t *testing.T, st api.SlabState) *slab.Slab {
	t.Helper()
	s, e := slab.Load(st)
	if e != api.OK || s == nil {
		t.Fatalf("Load(%v): %d", st, e)
	}
	return s
}

// same tells whether two states are; nil and the empty list are the same.
func same(a, b api.SlabState) bool {
	return a.Limit == b.Limit && slices.Equal(a.Gens, b.Gens) && slices.Equal(a.Alive, b.Alive) &&
		slices.EqualFunc(a.Caches, b.Caches, slices.Equal[[]int]) && slices.Equal(a.Free, b.Free)
}

// copyOf is a state in memory of its own, made of nothing but single numbers.
func copyOf(s api.SlabState) api.SlabState {
	c := api.SlabState{Limit: s.Limit}
	c.Gens = append(c.Gens, s.Gens...)
	c.Alive = append(c.Alive, s.Alive...)
	for _, l := range s.Caches {
		c.Caches = append(c.Caches, append([]int(nil), l...))
	}
	c.Free = append(c.Free, s.Free...)
	return c
}

// tells asks a slab by all that tell something of it: it is of that state.
func tells(t *testing.T, what string, s *slab.Slab, want api.SlabState) {
	t.Helper()
	if st := s.State(); !same(st, want) {
		t.Errorf("%s: State: %v, not %v", what, st, want)
	}
	live := 0
	for slot, gen := range want.Gens {
		if want.Alive[slot] {
			live++
		}
		if s.Alive(name(slot, gen)) != want.Alive[slot] {
			t.Errorf("%s: Alive of slot %d, generation %d: %v", what, slot, gen, !want.Alive[slot])
		}
		for _, g := range []api.Gid{name(slot, gen-1), name(slot, gen+1), name(slot, 0), name(slot, -gen)} {
			if s.Alive(g) {
				t.Errorf("%s: Alive(%v) of the generation %d: true", what, g, gen)
			}
		}
	}
	for _, g := range []api.Gid{name(len(want.Gens), 1), name(len(want.Gens), 0), name(-1, 1), name(1<<62, 1), name(-1<<63, -1<<63)} {
		if s.Alive(g) {
			t.Errorf("%s: Alive(%v): true", what, g)
		}
	}
	if n := s.Live(); n != live {
		t.Errorf("%s: Live: %d, not %d", what, n, live)
	}
}

// takes asks for a name.
func takes(t *testing.T, s *slab.Slab, p int, want api.Gid) {
	t.Helper()
	if g, e := s.Take(p); g != want || e != api.OK {
		t.Fatalf("Take(%d): %v, %d, not %v", p, g, e, want)
	}
}

// refuses asks for a name, of which there is none.
func refuses(t *testing.T, s *slab.Slab, p int, want api.Errno) {
	t.Helper()
	if g, e := s.Take(p); g != (api.Gid{}) || e != want {
		t.Fatalf("Take(%d): %v, %d, not %d", p, g, e, want)
	}
}

// gives gives a name back.
func gives(t *testing.T, s *slab.Slab, p int, g api.Gid, want api.Errno) {
	t.Helper()
	if e := s.Give(p, g); e != want {
		t.Fatalf("Give(%d, %v): %d, not %d", p, g, e, want)
	}
}

// flushes flushes a P.
func flushes(t *testing.T, s *slab.Slab, p int, want api.Errno) {
	t.Helper()
	if e := s.Flush(p); e != want {
		t.Fatalf("Flush(%d): %d, not %d", p, e, want)
	}
}
