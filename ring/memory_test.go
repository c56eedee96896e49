package ring_test

import (
	"slices"
	"testing"

	"rota/api"
	"rota/ring"
)

// spoil writes over a list, and over the room behind its end.
func spoil(l []api.Waiting) {
	for i := range l[:cap(l)] {
		l[:cap(l)][i] = api.Waiting{G: api.Gid{Slot: -1, Gen: -1}, Turn: 1 << 60}
	}
}

// TestStateHandedInIsNotKept: nor is it changed.
func TestStateHandedInIsNotKept(t *testing.T) {
	for _, n := range []uint64{0, 1, 3, size} {
		room := span(1, n+5)
		s := with(room[:n], 900)
		r, e := ring.Load(s)
		if e != api.OK {
			t.Fatalf("Load: %d", e)
		}
		if !slices.Equal(room, span(1, n+5)) {
			t.Errorf("Load changed what it was given: %v", room)
		}
		spoil(room)
		holds(t, "Load, then written over", r, with(span(1, n), 900))
		r.Take()
		r.Put(w(901))
		r.Drain()
		for _, x := range room {
			if x.Turn != 1<<60 {
				t.Fatalf("the ring wrote into what it was given: %v", room)
			}
		}
	}
}

// TestAnswersAreNotKept: an answer that is written over does not change a ring, and a ring that goes on does not change an answer.
func TestAnswersAreNotKept(t *testing.T) {
	full := span(101, 100+size)
	for _, begin := range begins {
		r := loaded(t, with(full, 900), begin)
		a, b := r.State(), r.State()
		spoil(a.Places)
		if !same(b, with(full, 900)) {
			t.Errorf("two states share a list: %+v", b)
		}
		holds(t, "State, then written over", r, with(full, 900))
		left, e := r.Put(w(800))
		if e != api.OK || len(left) != size/2+1 {
			t.Fatalf("Put: %v, %d", left, e)
		}
		if !same(b, with(full, 900)) {
			t.Errorf("Put changed a state that was told: %+v", b)
		}
		for n := range uint64(size) {
			r.Put(w(810 + n))
		}
		if !slices.Equal(left, append(span(101, 132), w(800))) {
			t.Errorf("what left changed with later calls: %v", left)
		}
		rest := r.State()
		spoil(left)
		holds(t, "Put, then written over", r, rest)
		out := r.Drain()
		was := slices.Clone(out)
		r.Put(w(1))
		if !slices.Equal(out, was) {
			t.Errorf("what was drained changed with a later call: %v", out)
		}
		spoil(out)
		holds(t, "Drain, then written over", r, alone(list(1)))
	}
}

// TestRingsAreApart: what is done with one ring is not seen in another one, not even behind a theft.
func TestRingsAreApart(t *testing.T) {
	s := with(span(1, 9), 20)
	a, _ := ring.Load(s)
	b, _ := ring.Load(s)
	thief := ring.New()
	if x, e := ring.Steal(a, thief); x != w(1) || e != api.OK {
		t.Fatalf("Steal: %v, %d", x, e)
	}
	holds(t, "another one of the same state", b, s)
	a.Drain()
	a.Put(w(77))
	holds(t, "the thief", thief, alone(span(2, 5)))
	thief.Drain()
	thief.Ready(w(78))
	holds(t, "the victim", a, alone(list(77)))
	holds(t, "another one of the same state", b, s)
}
