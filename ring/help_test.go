package ring_test

import (
	"slices"
	"testing"

	"rota/api"
	"rota/ring"
)

const size = api.RingSize

// w is one that waits; its name is made of its turn, so that a mix-up of names shows.
func w(turn uint64) api.Waiting {
	return api.Waiting{G: api.Gid{Slot: int(turn%1000) + 1, Gen: int(turn%7) + 2}, Turn: turn}
}

// list is some that wait, by their turns.
func list(turns ...uint64) []api.Waiting {
	var l []api.Waiting
	for _, n := range turns {
		l = append(l, w(n))
	}
	return l
}

// span is those with the turns from a to b.
func span(a, b uint64) []api.Waiting {
	var l []api.Waiting
	for n := a; n <= b; n++ {
		l = append(l, w(n))
	}
	return l
}

// alone is a state without a next one.
func alone(places []api.Waiting) api.RingState { return api.RingState{Places: places} }

// with is a state with a next one.
func with(places []api.Waiting, next uint64) api.RingState {
	return api.RingState{Places: places, Has: true, Next: w(next)}
}

// loaded makes a ring of a state that may be, its oldest place at a place of the array that many calls come to.
func loaded(t *testing.T, s api.RingState, begin int) *ring.Ring {
	t.Helper()
	// Turns below all others: those are put and taken out ahead, and leave nothing but the beginning behind.
	r := ring.New()
	for i := range begin {
		if _, e := r.Put(api.Waiting{Turn: uint64(i)}); e != api.OK {
			t.Fatalf("Put: %d", e)
		}
		if _, _, e := r.Take(); e != api.OK {
			t.Fatalf("Take: %d", e)
		}
	}
	for _, x := range s.Places {
		if left, e := r.Put(x); e != api.OK || len(left) > 0 {
			t.Fatalf("Put(%v): %v, %d", x, left, e)
		}
	}
	if s.Has {
		if left, e := r.Ready(s.Next); e != api.OK || len(left) > 0 {
			t.Fatalf("Ready(%v): %v, %d", s.Next, left, e)
		}
	}
	return r
}

// same tells whether two states are.
func same(a, b api.RingState) bool {
	return slices.Equal(a.Places, b.Places) && a.Has == b.Has && a.Next == b.Next
}

// count is how many are in a state.
func count(s api.RingState) int {
	n := len(s.Places)
	if s.Has {
		n++
	}
	return n
}

// holds asks for a ring's state, and how many are in it.
func holds(t *testing.T, what string, r *ring.Ring, s api.RingState) {
	t.Helper()
	if got := r.State(); !same(got, s) || r.Len() != count(s) {
		t.Errorf("%s: %+v, %d in it, not %+v", what, got, r.Len(), s)
	}
}
