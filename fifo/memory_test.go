package fifo_test

import (
	"slices"
	"testing"

	"rota/api"
	"rota/fifo"
)

// spoilt is what a list is written over with.
func spoilt() api.Waiting { return w(-8, 12345) }

// spoil writes over a list, and over the room behind its end.
func spoil(l []api.Waiting) {
	l = l[:cap(l)]
	for i := range l {
		l[i] = spoilt()
	}
}

// changed tells whether a list that was written over was written into since.
func changed(l []api.Waiting) bool {
	return slices.ContainsFunc(l[:cap(l)], func(x api.Waiting) bool { return x != spoilt() })
}

// busy carries out calls that move all that a queue keeps.
func busy(t *testing.T, q *fifo.Queue) {
	t.Helper()
	l := q.All()
	for n := range 40 {
		if e := q.Put(w(-100-n, uint64(2*n+1))); e != api.OK {
			t.Fatalf("Put: %d", e)
		}
	}
	for n := range 40 {
		if _, e := q.Drop(api.Gid{Slot: -100 - n, Gen: 1}); e != api.OK {
			t.Fatalf("Drop: %d", e)
		}
	}
	for range l {
		q.Take()
	}
	back(t, q, l)
}

// TestListHandedInIsNotKept: nor is it changed, nor what lies behind its end, also where Load refuses it.
func TestListHandedInIsNotKept(t *testing.T) {
	for _, n := range []int{0, 1, 3, 50} {
		room := row(n + 5)
		slices.Reverse(room)
		was := slices.Clone(room)
		q, e := fifo.Load(room[:n])
		if e != api.OK {
			t.Fatalf("Load: %d", e)
		}
		busy(t, q)
		if !slices.Equal(room, was) {
			t.Errorf("what was handed in has changed: %v, not %v", room, was)
		}
		want := q.All()
		spoil(room)
		holds(t, "Load, then written over", q, want)
	}
	twice := list(w(3, 3), w(2, 2), w(2, 1), w(1, 1))
	if _, e := fifo.Load(twice); e != api.ErrThere {
		t.Errorf("Load: %d, not ErrThere", e)
	}
	if !slices.Equal(twice, list(w(3, 3), w(2, 2), w(2, 1), w(1, 1))) {
		t.Errorf("what was refused has changed: %v", twice)
	}
}

// TestAnswersAreNotKept: an answer that is written over does not change a queue, and a queue that goes on does not change an answer.
func TestAnswersAreNotKept(t *testing.T) {
	for _, n := range []int{1, 2, 7, 50} {
		l := row(n)
		q := queue(t, l...)
		a, b := q.All(), q.All()
		spoil(a)
		if !slices.Equal(b, l) {
			t.Errorf("two lists of All share memory: %v", b)
		}
		holds(t, "All, then written over", q, l)
		for _, m := range []int{0, 1, n / 2, n} {
			got, e := q.Batch(1, m)
			if e != api.OK || !slices.Equal(got, l[:m]) {
				t.Fatalf("Batch(1, %d): %v, %d", m, got, e)
			}
			rest := q.All()
			busy(t, q)
			if !slices.Equal(got, l[:m]) {
				t.Errorf("a batch has changed with later calls: %v", got)
			}
			spoil(got)
			holds(t, "Batch, then written over", q, rest)
			back(t, q, l[:m])
			if changed(got) {
				t.Errorf("the queue wrote into a batch, or behind its end: %v", got[:cap(got)])
			}
			holds(t, "Batch, written over, and Put", q, l)
		}
		busy(t, q)
		if !slices.Equal(b, l) || changed(a) {
			t.Errorf("later calls have changed lists of All: %v, %v", b, a)
		}
	}
}

// TestQueuesAreApart: what is done with one is not seen in another one.
func TestQueuesAreApart(t *testing.T) {
	l := row(9)
	a, _ := fifo.Load(l)
	b, _ := fifo.Load(l)
	c, _ := fifo.Load(a.All())
	empty := fifo.New()
	// Who waits in one may wait in another one, with the same turn and with another one.
	if e := empty.Put(l[4]); e != api.OK {
		t.Errorf("Put of one that waits elsewhere: %d", e)
	}
	got, _ := a.Batch(2, 9)
	back(t, empty, got[:4])
	a.Take()
	a.Drop(l[8].G)
	a.Put(w(-5, 3))
	holds(t, "the first one", a, slices.Concat(list(w(-5, 3)), l[6:8]))
	holds(t, "the second one", b, l)
	holds(t, "the third one", c, l)
	holds(t, "the fourth one", empty, l[:5])
	b.Batch(1, 9)
	holds(t, "the second one, emptied", b, nil)
	holds(t, "the first one", a, slices.Concat(list(w(-5, 3)), l[6:8]))
	holds(t, "the third one", c, l)
}
