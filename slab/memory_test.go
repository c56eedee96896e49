package slab_test

import (
	"slices"
	"testing"

	"rota/api"
	"rota/slab"
)

// mark is what numbers are written over with.
const mark = -77

// spoilList writes over a list, and over the room behind its end.
func spoilList(l []int) {
	l = l[:cap(l)]
	for i := range l {
		l[i] = mark
	}
}

// spoil writes over all of a state.
func spoil(st api.SlabState) {
	spoilList(st.Gens)
	spoilList(st.Free)
	alive := st.Alive[:cap(st.Alive)]
	for i := range alive {
		alive[i] = !alive[i]
	}
	caches := st.Caches[:cap(st.Caches)]
	for p := range caches {
		spoilList(caches[p])
		caches[p] = []int{mark}
	}
}

// busy carries out calls that move all that a slab keeps.
func busy(t *testing.T, s *slab.Slab) {
	t.Helper()
	procs := len(s.State().Caches)
	var had []api.Gid
	for n := 0; ; n++ {
		g, e := s.Take(n % procs)
		if e != api.OK {
			break
		}
		had = append(had, g)
	}
	for n, g := range had {
		gives(t, s, n/3%procs, g, api.OK)
	}
	for p := range procs {
		flushes(t, s, p, api.OK)
	}
	for p := range procs {
		g, _ := s.Take(p)
		gives(t, s, p, g, api.OK)
	}
}

// examples is states with something of all.
func examples() []api.SlabState {
	return []api.SlabState{
		state(3, 0, nil, nil, nil),
		state(9, 7, []int{5, 1}, []int{2}, nil, []int{0, 4}),
		state(9, 9, []int{8, 3}, []int{}, []int{7}),
		state(200, 150, span(0, 50), span(50, 110), span(110, 113)),
	}
}

// roomy is a state whose lists lie in one piece of memory, each with room behind its end, which is the next one's.
func roomy(st api.SlabState) (api.SlabState, []int) {
	piece := slices.Concat(st.Gens, st.Free, slices.Concat(st.Caches...), []int{mark, mark, mark})
	at := 0
	next := func(n int) []int {
		at += n
		return piece[at-n : at]
	}
	r := api.SlabState{Limit: st.Limit, Gens: next(len(st.Gens)), Free: next(len(st.Free))}
	r.Alive = append(slices.Clone(st.Alive), true, false, true)[:len(st.Alive)]
	for _, l := range st.Caches {
		r.Caches = append(r.Caches, next(len(l)))
	}
	return r, piece
}

// TestStateHandedInIsNotKept: R3: nor is it changed, nor what lies behind its lists' ends.
func TestStateHandedInIsNotKept(t *testing.T) {
	for _, st := range examples() {
		in, piece := roomy(st)
		was := slices.Clone(piece)
		s := load(t, in)
		busy(t, s)
		if !same(in, st) || !slices.Equal(piece, was) || !slices.Equal(in.Alive[:cap(in.Alive)][:len(st.Alive)+3], append(slices.Clone(st.Alive), true, false, true)) {
			t.Errorf("what was handed in has changed: %v, not %v", in, st)
		}
		want := s.State()
		spoil(in)
		tells(t, "Load, then written over", s, want)
		s = load(t, st)
		other := copyOf(st)
		spoil(st)
		tells(t, "Load, then written over at once", s, other)
	}
}

// TestStateToldIsNotKept: R3: a state that is written over does not change a slab, nor another state, and a slab that goes on does not change a state.
func TestStateToldIsNotKept(t *testing.T) {
	for _, st := range examples() {
		s := load(t, st)
		a, b := s.State(), s.State()
		spoil(a)
		if !same(b, st) {
			t.Errorf("two states share memory: %v", b)
		}
		tells(t, "State, then written over", s, st)
		was := copyOf(a)
		busy(t, s)
		if !same(b, st) || !same(a, was) {
			t.Errorf("later calls have changed states: %v, %v", b, a)
		}
	}
}

// TestListsOfAStateAreApart: R3: no two lists of one answer share memory, their room neither.
func TestListsOfAStateAreApart(t *testing.T) {
	for _, st := range examples() {
		s := load(t, st)
		busy(t, s)
		for _, s := range []*slab.Slab{s, load(t, st)} {
			want := s.State()
			for n := range len(want.Caches) + 2 {
				got := s.State()
				l := slices.Concat(lists(got.Gens, got.Free), got.Caches)
				spoilList(l[n])
				for m, other := range slices.Concat(lists(want.Gens, want.Free), want.Caches) {
					if m != n && !slices.Equal(l[m], other) {
						t.Errorf("the lists %d and %d share memory", n, m)
					}
				}
			}
		}
	}
}

// TestSlabsAreApart: R4: what is done with one is not seen in another one.
func TestSlabsAreApart(t *testing.T) {
	for _, st := range examples() {
		a, b := load(t, st), load(t, st)
		c := load(t, a.State())
		busy(t, a)
		tells(t, "the second one", b, st)
		tells(t, "the third one", c, st)
	}
	a, b := fresh(t, 3, 2), fresh(t, 3, 2)
	takes(t, a, 0, name(0, 1))
	takes(t, b, 1, name(0, 1))
	gives(t, a, 0, name(0, 1), api.OK)
	if !b.Alive(name(0, 1)) || b.Live() != 1 || a.Live() != 0 {
		t.Errorf("one slab's Give is seen in another one")
	}
}
