package slab_test

import (
	"math"
	"slices"
	"testing"

	"rota/api"
	"rota/slab"
)

// TestLoad: L5: states that may be are told again.
func TestLoad(t *testing.T) {
	retired := state(4, 4, []int{1}, []int{2}, nil)
	retired.Gens[0], retired.Alive[0] = api.MaxGen, false
	retired.Gens[3] = api.MaxGen
	for _, c := range []struct {
		what string
		st   api.SlabState
	}{
		{"no slots, the least numbers", state(1, 0, nil, nil)},
		{"no slots, the greatest numbers", state(4096, 0, nil, make([][]int, 64)...)},
		{"empty lists", api.SlabState{Limit: 1, Gens: []int{}, Alive: []bool{}, Caches: lists([]int{}), Free: []int{}}},
		{"one alive", state(1, 1, nil, nil)},
		{"one in the list", state(1, 1, []int{0}, nil)},
		{"one in the last cache", state(1, 1, nil, nil, nil, []int{0})},
		{"some of all, in no order", state(9, 8, []int{6, 1}, []int{7}, nil, []int{3, 0})},
		{"as many slots as may be", state(4096, 4096, span(100, 4096), span(0, 63))},
		{"all of them alive", state(4096, 4096, nil, nil)},
		{"the fullest caches", state(300, 300, nil, span(0, 63), span(63, 126), nil, span(130, 193))},
		{"a list of more than CacheSize", state(300, 300, span(0, 300), nil)},
		{"the last generation, alive and not", retired},
		{"the last generation but one, free", api.SlabState{Limit: 1, Gens: []int{api.MaxGen - 1}, Alive: []bool{false}, Caches: lists([]int{0})}},
		{"the first generation, free", api.SlabState{Limit: 1, Gens: []int{1}, Alive: []bool{false}, Caches: lists(nil), Free: []int{0}}},
	} {
		tells(t, c.what, load(t, c.st), c.st)
	}
}

// refusesState asks Load for an error.
func refusesState(t *testing.T, what string, st api.SlabState, want api.Errno) {
	t.Helper()
	was := copyOf(st)
	if s, e := slab.Load(st); s != nil || e != want {
		t.Errorf("%s: Load: %d, not %d", what, e, want)
	}
	if !same(st, was) {
		t.Errorf("%s: the state that was refused has changed: %v", what, st)
	}
}

// TestLoadOfWrongNumbers: L5: ErrArg, also where the rest may not be.
func TestLoadOfWrongNumbers(t *testing.T) {
	for _, limit := range []int{0, -1, 4097, math.MaxInt, math.MinInt} {
		refusesState(t, "the limit", state(limit, 0, nil, nil), api.ErrArg)
		refusesState(t, "the limit, and slots", state(limit, 3, []int{1}, nil), api.ErrArg)
		refusesState(t, "the limit, and a slot that was not made", state(limit, 0, []int{0}, nil), api.ErrArg)
	}
	for _, procs := range []int{0, 65, 5000} {
		refusesState(t, "the Ps", state(9, 4, nil, make([][]int, procs)...), api.ErrArg)
		refusesState(t, "the Ps, and a generation", api.SlabState{Limit: 1, Gens: []int{0}, Caches: make([][]int, procs)}, api.ErrArg)
	}
	refusesState(t, "both", state(0, 4, nil), api.ErrArg)
	refusesState(t, "nothing", api.SlabState{}, api.ErrArg)
}

// TestLoadOfWrongStates: L5: ErrSlab, by what differs from a state that may be.
func TestLoadOfWrongStates(t *testing.T) {
	for _, c := range []struct {
		what  string
		spoil func(*api.SlabState)
	}{
		{"more Gens than Limit", func(s *api.SlabState) { s.Limit = 5 }},
		{"one fewer Alive", func(s *api.SlabState) { s.Alive = s.Alive[:5] }},
		{"one more Alive", func(s *api.SlabState) { s.Alive = append(s.Alive, true) }},
		{"no Alive", func(s *api.SlabState) { s.Alive = nil }},
		{"no Gens", func(s *api.SlabState) { s.Gens = nil }},
		{"a generation of 0", func(s *api.SlabState) { s.Gens[5] = 0 }},
		{"a generation of 0, free", func(s *api.SlabState) { s.Gens[0] = 0 }},
		{"a generation below 0", func(s *api.SlabState) { s.Gens[5] = -1 }},
		{"the least generation", func(s *api.SlabState) { s.Gens[5] = math.MinInt }},
		{"a generation above MaxGen", func(s *api.SlabState) { s.Gens[5] = api.MaxGen + 1 }},
		{"a generation above MaxGen, not alive", func(s *api.SlabState) { s.Gens[4], s.Alive[4] = api.MaxGen+1, false }},
		{"the greatest generation", func(s *api.SlabState) { s.Gens[5] = math.MaxInt }},
		{"a slot of a cache was not made", func(s *api.SlabState) { s.Caches[2] = append(s.Caches[2], 6) }},
		{"a slot of the list was not made", func(s *api.SlabState) { s.Free = append(s.Free, 6) }},
		{"a slot below 0 in a cache", func(s *api.SlabState) { s.Caches[0] = []int{-1} }},
		{"a slot below 0 in the list", func(s *api.SlabState) { s.Free = append(s.Free, math.MinInt) }},
		{"a slot far too great in the list", func(s *api.SlabState) { s.Free = append(s.Free, math.MaxInt) }},
		{"a slot of a cache is alive", func(s *api.SlabState) { s.Alive[0] = true }},
		{"a slot of the list is alive", func(s *api.SlabState) { s.Alive[2] = true }},
		{"one more slot of a cache, alive", func(s *api.SlabState) { s.Caches[0] = []int{5} }},
		{"a slot of a cache is of MaxGen", func(s *api.SlabState) { s.Gens[0] = api.MaxGen }},
		{"a slot of the list is of MaxGen", func(s *api.SlabState) { s.Gens[2] = api.MaxGen }},
		{"a slot of a cache is of MaxGen, and alive", func(s *api.SlabState) { s.Gens[0], s.Alive[0] = api.MaxGen, true }},
		{"twice in a cache", func(s *api.SlabState) { s.Caches[1] = []int{0, 3, 0} }},
		{"twice in the list", func(s *api.SlabState) { s.Free = []int{2, 1, 2} }},
		{"in two caches", func(s *api.SlabState) { s.Caches[2] = []int{3} }},
		{"in a cache and in the list", func(s *api.SlabState) { s.Free = []int{2, 1, 0} }},
		{"missing in a cache", func(s *api.SlabState) { s.Caches[1] = []int{3} }},
		{"missing in the list", func(s *api.SlabState) { s.Free = []int{1} }},
		{"missing in all", func(s *api.SlabState) { s.Free, s.Caches[1] = nil, nil }},
		{"one more that is not alive", func(s *api.SlabState) { s.Alive[4] = false }},
		{"one missing, another one twice", func(s *api.SlabState) { s.Free = []int{2, 2} }},
	} {
		st := state(6, 6, []int{2, 1}, nil, []int{0, 3}, nil)
		load(t, st)
		c.spoil(&st)
		refusesState(t, c.what, st, api.ErrSlab)
	}
	refusesState(t, "a slot, and none was made", state(1, 0, []int{0}, nil), api.ErrSlab)
	refusesState(t, "4097 slots", state(4096, 4097, nil, nil), api.ErrSlab)
	refusesState(t, "a list without an end", state(9, 9, slices.Repeat([]int{3}, 1<<20), nil), api.ErrSlab)
}

// TestLoadOfCachesThatAreFull: L5: CacheSize slots are one too many.
func TestLoadOfCachesThatAreFull(t *testing.T) {
	for _, n := range []int{64, 65, 128, 300} {
		refusesState(t, "the first cache", state(400, 400, nil, span(0, n)), api.ErrSlab)
		refusesState(t, "the last cache", state(400, 400, []int{399}, nil, []int{398}, span(0, n)), api.ErrSlab)
	}
	load(t, state(400, 400, nil, span(0, 63)))
}

// TestLoadGoesOn: a slab of a state does what the one that told it does.
func TestLoadGoesOn(t *testing.T) {
	a := fresh(t, 5, 2)
	for slot := range 4 {
		takes(t, a, 0, name(slot, 1))
	}
	for _, slot := range []int{2, 0, 3} {
		gives(t, a, 1, name(slot, 1), api.OK)
	}
	for _, s := range []*slab.Slab{load(t, a.State()), a} {
		takes(t, s, 0, name(4, 1))
		takes(t, s, 0, name(2, 2))
		takes(t, s, 1, name(3, 2))
		takes(t, s, 0, name(0, 2))
		refuses(t, s, 0, api.ErrFull)
		gives(t, s, 1, name(2, 1), api.ErrStale)
		gives(t, s, 1, name(2, 2), api.OK)
	}
}
