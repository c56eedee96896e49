package slab_test

import (
	"math"
	"slices"
	"testing"

	"rota/api"
	"rota/slab"
)

// TestNew: L1.
func TestNew(t *testing.T) {
	for _, c := range []struct {
		limit, procs int
		e            api.Errno
	}{
		{1, 1, api.OK},
		{1, api.MaxProcs, api.OK},
		{api.MaxGs, 1, api.OK},
		{api.MaxGs, api.MaxProcs, api.OK},
		{4096, 64, api.OK},
		{7, 3, api.OK},
		{0, 1, api.ErrArg},
		{-1, 1, api.ErrArg},
		{4097, 1, api.ErrArg},
		{1, 0, api.ErrArg},
		{1, -1, api.ErrArg},
		{1, 65, api.ErrArg},
		{0, 0, api.ErrArg},
		{math.MaxInt, 1, api.ErrArg},
		{math.MinInt, 1, api.ErrArg},
		{1, math.MaxInt, api.ErrArg},
		{1, math.MinInt, api.ErrArg},
		{math.MinInt, math.MaxInt, api.ErrArg},
	} {
		s, e := slab.New(c.limit, c.procs)
		if e != c.e || (s != nil) != (c.e == api.OK) {
			t.Errorf("New(%d, %d): %d, not %d", c.limit, c.procs, e, c.e)
			continue
		}
		if e == api.OK {
			tells(t, "New", s, api.SlabState{Limit: c.limit, Caches: make([][]int, c.procs)})
		}
	}
}

// TestExamples: those of the chapter but the last one, which TestLastGeneration has.
func TestExamples(t *testing.T) {
	s := fresh(t, 3, 2)
	takes(t, s, 0, name(0, 1))
	takes(t, s, 1, name(1, 1))
	takes(t, s, 0, name(2, 1))
	refuses(t, s, 0, api.ErrFull)
	gives(t, s, 1, name(1, 1), api.OK)
	takes(t, s, 0, name(1, 2))
	if s.Alive(name(1, 1)) {
		t.Errorf("Alive of a name that was taken back: true")
	}
	gives(t, s, 0, name(1, 1), api.ErrStale)

	s = fresh(t, 100, 1)
	for slot := range 64 {
		takes(t, s, 0, name(slot, 1))
	}
	for slot := range 64 {
		gives(t, s, 0, name(slot, 1), api.OK)
	}
	want := api.SlabState{Limit: 100, Gens: slices.Repeat([]int{1}, 64), Alive: make([]bool, 64), Caches: lists(span(32, 64)), Free: span(0, 32)}
	tells(t, "64 Gives", s, want)
	again := load(t, s.State())
	takes(t, s, 0, name(63, 2))
	flushes(t, again, 0, api.OK)
	want.Caches, want.Free = lists(nil), span(0, 64)
	tells(t, "Flush", again, want)
	takes(t, again, 0, name(15, 2))
	want.Caches, want.Free = lists(span(0, 15)), span(16, 64)
	want.Gens[15], want.Alive[15] = 2, true
	tells(t, "Take behind Flush", again, want)
}

// TestTake: L2: which slot it is, and which lists it leaves.
func TestTake(t *testing.T) {
	for _, c := range []struct {
		what   string
		before api.SlabState
		p      int
		want   api.Gid
		caches [][]int
		free   []int
	}{
		{"no slots", state(1, 0, nil, nil), 0, name(0, 1), lists(nil), nil},
		{"no slots, the last P", state(9, 0, nil, nil, nil, nil), 2, name(0, 1), lists(nil, nil, nil), nil},
		{"all that were made are alive", state(9, 4, nil, nil, nil), 1, name(4, 1), lists(nil, nil), nil},
		{"the last one that may be made", state(5, 4, nil, nil), 0, name(4, 1), lists(nil), nil},
		{"the greatest limit", state(4096, 4095, nil, nil), 0, name(4095, 1), lists(nil), nil},
		{"one in the cache", state(9, 4, nil, []int{2}), 0, name(2, 13), lists(nil), nil},
		{"the last one of the cache", state(9, 4, nil, []int{3, 0, 2}), 0, name(2, 13), lists([]int{3, 0}), nil},
		{"the cache ahead of the list", state(9, 4, []int{1, 0}, []int{3, 2}), 0, name(2, 13), lists([]int{3}), []int{1, 0}},
		{"the cache ahead of other caches", state(4, 4, nil, []int{0}, []int{3, 1}, []int{2}), 1, name(1, 12), lists([]int{0}, []int{3}, []int{2}), nil},
		{"one in the list", state(9, 4, []int{2}, nil), 0, name(2, 13), lists(nil), nil},
		{"fewer than Refill in the list: the last one of all", state(9, 4, []int{2, 0, 3}, nil), 0, name(3, 14), lists([]int{2, 0}), nil},
		{"one fewer than Refill", state(99, 40, span(20, 35), nil), 0, name(34, 45), lists(span(20, 34)), nil},
		{"just Refill", state(99, 40, span(20, 36), nil), 0, name(35, 46), lists(span(20, 35)), nil},
		{"one more than Refill", state(99, 40, span(20, 37), nil), 0, name(35, 46), lists(span(20, 35)), []int{36}},
		{"many more than Refill", state(999, 900, span(5, 800), nil), 0, name(20, 31), lists(span(5, 20)), span(21, 800)},
		{"the list ahead of slots that were not made, and of other caches", state(9, 4, []int{1}, []int{0}, nil, []int{2}), 1, name(1, 12), lists([]int{0}, nil, []int{2}), nil},
		{"a refill of one P's cache alone", state(9, 6, []int{4, 1}, nil, nil, []int{2}), 0, name(1, 12), lists([]int{4}, nil, []int{2}), nil},
		{"slots that were not made ahead of other caches", state(5, 4, nil, nil, []int{2}), 0, name(4, 1), lists(nil, []int{2}), nil},
		{"the first one of the next cache", state(5, 5, nil, nil, []int{2, 0, 4}, []int{1}), 0, name(2, 13), lists(nil, []int{0, 4}, []int{1}), nil},
		{"empty caches are passed", state(5, 5, nil, nil, nil, nil, []int{3, 1}, []int{2}), 0, name(3, 14), lists(nil, nil, nil, []int{1}, []int{2}), nil},
		{"round from the last P to the first", state(5, 5, nil, []int{4, 1}, []int{2}, nil), 2, name(4, 15), lists([]int{1}, []int{2}, nil), nil},
		{"round, from within", state(5, 5, nil, []int{4}, []int{1}, nil, nil), 2, name(4, 15), lists(nil, []int{1}, nil, nil), nil},
		{"the ones behind ahead of the ones before", state(5, 5, nil, []int{4}, nil, []int{0, 2}), 1, name(0, 11), lists([]int{4}, nil, []int{2}), nil},
		{"round to the one before", state(5, 5, nil, nil, []int{4, 3}, nil), 2, name(4, 15), lists(nil, []int{3}, nil), nil},
	} {
		s := load(t, c.before)
		takes(t, s, c.p, c.want)
		after := copyOf(c.before)
		after.Caches, after.Free = c.caches, c.free
		if c.want.Slot == len(after.Gens) {
			after.Gens, after.Alive = append(after.Gens, 0), append(after.Alive, false)
		}
		after.Gens[c.want.Slot], after.Alive[c.want.Slot] = c.want.Gen, true
		tells(t, c.what, s, after)
	}
}

// TestTakeOfAFullSlab: L2 and L7: nothing is left, and nothing changes.
func TestTakeOfAFullSlab(t *testing.T) {
	last := state(3, 3, nil, nil, nil)
	last.Gens[1], last.Alive[1] = api.MaxGen, false
	for _, st := range []api.SlabState{
		state(1, 1, nil, nil),
		state(5, 5, nil, nil, nil, nil),
		state(4096, 4096, nil, make([][]int, 64)...),
		last,
	} {
		s := load(t, st)
		for p := range st.Caches {
			refuses(t, s, p, api.ErrFull)
		}
		tells(t, "full", s, st)
	}
}

// wrongProcs is some that a slab of so many Ps has not.
func wrongProcs(procs int) []int {
	return []int{procs, procs + 1, -1, -procs, api.MaxProcs + 1, math.MaxInt, math.MinInt}
}

// TestWrongProcs: L2, L3: ErrArg comes ahead of all others, and nothing changes.
func TestWrongProcs(t *testing.T) {
	full := state(4, 4, nil, make([][]int, 64)...)
	for _, st := range []api.SlabState{state(9, 4, []int{1}, []int{0}), state(9, 4, []int{1}, nil, []int{0}), full} {
		s := load(t, st)
		for _, p := range wrongProcs(len(st.Caches)) {
			refuses(t, s, p, api.ErrArg)
			gives(t, s, p, name(3, 13), api.ErrArg)
			gives(t, s, p, name(3, 1), api.ErrArg)
			gives(t, s, p, api.Gid{}, api.ErrArg)
			flushes(t, s, p, api.ErrArg)
		}
		tells(t, "wrong Ps", s, st)
	}
}

// TestGive: L3: the slot goes behind the cache of the P that gives it back, whoever took it.
func TestGive(t *testing.T) {
	half := span(10, 73) // one fewer than CacheSize
	for _, c := range []struct {
		what   string
		before api.SlabState
		p      int
		slot   int
		caches [][]int
		free   []int
	}{
		{"into an empty cache", state(9, 4, nil, nil), 0, 3, lists([]int{3}), nil},
		{"behind others", state(9, 4, []int{0}, []int{2}), 0, 1, lists([]int{2, 1}), []int{0}},
		{"another P's cache", state(9, 4, nil, []int{2}, nil, nil), 2, 0, lists([]int{2}, nil, []int{0}), nil},
		{"two fewer than CacheSize", state(99, 90, []int{5}, span(10, 72)), 0, 7, lists(append(span(10, 72), 7)), []int{5}},
		{"one fewer than CacheSize", state(99, 90, nil, half), 0, 7, lists(append(span(42, 73), 7)), span(10, 42)},
		{"behind what the list has", state(99, 90, []int{9, 2}, half), 0, 89, lists(append(span(42, 73), 89)), append([]int{9, 2}, span(10, 42)...)},
		{"another P's cache is full to the last", state(99, 90, []int{9}, half, []int{2}), 1, 7, lists(half, []int{2, 7}), []int{9}},
		{"the second P's", state(99, 90, []int{9}, []int{2}, half), 1, 7, lists([]int{2}, append(span(42, 73), 7)), append([]int{9}, span(10, 42)...)},
	} {
		s := load(t, c.before)
		gives(t, s, c.p, name(c.slot, c.slot+10), api.OK)
		after := copyOf(c.before)
		after.Alive[c.slot], after.Caches, after.Free = false, c.caches, c.free
		tells(t, c.what, s, after)
		gives(t, s, c.p, name(c.slot, c.slot+10), api.ErrStale)
		tells(t, c.what+", twice", s, after)
	}
}

// TestGiveOfStrangers: L3: names that are not alive, and nothing changes.
func TestGiveOfStrangers(t *testing.T) {
	st := state(9, 4, []int{1}, []int{0}, nil)
	st.Gens = append(st.Gens, api.MaxGen)
	st.Alive = append(st.Alive, false)
	s := load(t, st)
	for _, g := range []api.Gid{
		{}, name(0, 10), name(1, 11), name(0, 11), // free ones, and a name that is to come
		name(2, 11), name(2, 13), name(2, 0), name(2, -12), name(2, 12+1<<32), // other generations
		name(4, api.MaxGen), name(4, api.MaxGen+1), name(4, 0), // a retired one
		name(5, 0), name(5, 1), name(8, 1), name(9, 1), name(-1, 10), name(-2, 12), // slots that were not made
		name(12, 2), name(2+1<<32, 12), name(math.MaxInt, math.MaxInt), name(math.MinInt, math.MinInt),
	} {
		for p := range 2 {
			gives(t, s, p, g, api.ErrStale)
		}
	}
	tells(t, "strangers", s, st)
}

// TestFlush: L3.
func TestFlush(t *testing.T) {
	for _, c := range []struct {
		what   string
		before api.SlabState
		p      int
		caches [][]int
		free   []int
	}{
		{"nothing", state(9, 0, nil, nil), 0, lists(nil), nil},
		{"an empty cache", state(9, 4, []int{3, 1}, nil, []int{2}), 0, lists(nil, []int{2}), []int{3, 1}},
		{"into an empty list", state(9, 4, nil, []int{3, 0, 2}), 0, lists(nil), []int{3, 0, 2}},
		{"behind the list", state(9, 4, []int{2}, []int{0}, []int{3, 1}), 1, lists([]int{0}, nil), []int{2, 3, 1}},
		{"the fullest cache", state(99, 80, []int{0}, span(1, 64)), 0, lists(nil), span(0, 64)},
	} {
		s := load(t, c.before)
		after := copyOf(c.before)
		after.Caches, after.Free = c.caches, c.free
		for range 2 {
			flushes(t, s, c.p, api.OK)
			tells(t, c.what, s, after)
		}
	}
}

// TestLastGeneration: the chapter's words 'retired' and its last example.
func TestLastGeneration(t *testing.T) {
	st := api.SlabState{Limit: 2, Gens: []int{api.MaxGen - 1}, Alive: []bool{true}, Caches: lists(nil, nil)}
	s := load(t, st)
	gives(t, s, 1, name(0, api.MaxGen-1), api.OK)
	takes(t, s, 1, name(0, 1<<31-1))
	gives(t, s, 1, name(0, 1<<31), api.ErrStale)
	gives(t, s, 1, name(0, api.MaxGen), api.OK)
	gives(t, s, 1, name(0, api.MaxGen), api.ErrStale)
	st.Gens[0], st.Alive[0] = api.MaxGen, false
	tells(t, "retired", s, st)
	for p := range 2 {
		flushes(t, s, p, api.OK)
	}
	tells(t, "retired, and flushed", s, st)
	// A retired slot counts among those that there may be: one is left of two.
	takes(t, s, 0, name(1, 1))
	refuses(t, s, 0, api.ErrFull)
	refuses(t, s, 1, api.ErrFull)
	gives(t, s, 1, name(1, 1), api.OK)
	takes(t, s, 0, name(1, 2))
}

// TestRetiredSlotLeavesACacheAsItIs: one that is full to the last slot does not overflow by it.
func TestRetiredSlotLeavesACacheAsItIs(t *testing.T) {
	st := state(99, 80, []int{70}, span(0, 63))
	st.Gens[64] = api.MaxGen
	s := load(t, st)
	gives(t, s, 0, name(64, api.MaxGen), api.OK)
	st.Alive[64] = false
	tells(t, "retired", s, st)
}

// TestNobodysSlab: what one that nobody made answers.
func TestNobodysSlab(t *testing.T) {
	refused, _ := slab.New(0, 0)
	unloaded, _ := slab.Load(api.SlabState{})
	var plain slab.Slab
	for _, s := range []*slab.Slab{nil, {}, new(slab.Slab), &plain, refused, unloaded} {
		for range 2 {
			for _, p := range []int{0, 1, -1, 63, math.MaxInt, math.MinInt} {
				refuses(t, s, p, api.ErrArg)
				gives(t, s, p, api.Gid{}, api.ErrArg)
				gives(t, s, p, name(0, 1), api.ErrArg)
				flushes(t, s, p, api.ErrArg)
			}
			for _, g := range []api.Gid{{}, name(0, 1), name(-1, -1), name(math.MaxInt, math.MaxInt)} {
				if s.Alive(g) {
					t.Errorf("Alive(%v) of nobody's slab: true", g)
				}
			}
			if n := s.Live(); n != 0 {
				t.Errorf("Live of nobody's slab: %d", n)
			}
			if st := s.State(); !same(st, api.SlabState{}) {
				t.Errorf("State of nobody's slab: %v", st)
			}
		}
	}
}
