package fifo_test

import (
	"slices"
	"testing"

	"rota/api"
	"rota/fifo"
)

// six are in order, the least and the greatest turn among them, and two of them with the same slot.
func six() []api.Waiting {
	return list(w(4, 0), w(2, 1), api.Waiting{G: api.Gid{Slot: 4, Gen: 2}, Turn: 7}, w(-9, 8), w(1, 1<<63), w(3, top))
}

// back puts some into a queue again, in that order.
func back(t *testing.T, q *fifo.Queue, l []api.Waiting) {
	t.Helper()
	for _, x := range l {
		if e := q.Put(x); e != api.OK {
			t.Fatalf("Put(%v) of what was taken: %d", x, e)
		}
	}
}

// TestAnyOrderIsTakenByTurns: put or loaded.
func TestAnyOrderIsTakenByTurns(t *testing.T) {
	orders(six(), func(l []api.Waiting) {
		q := fifo.New()
		back(t, q, l)
		takes(t, "Put", q, six())
		q, e := fifo.Load(l)
		if e != api.OK {
			t.Fatalf("Load(%v): %d", l, e)
		}
		takes(t, "Load", q, six())
	})
}

// TestPutBack: what was taken, in whichever order it comes back, comes back to its place.
func TestPutBack(t *testing.T) {
	all := six()
	for n := range len(all) + 1 {
		orders(all[:n], func(l []api.Waiting) {
			q := queue(t, all...)
			for range n {
				q.Take()
			}
			holds(t, "Take", q, all[n:])
			back(t, q, l)
			holds(t, "Take and Put", q, all)

			if got, e := q.Batch(1, n); len(got) != n || e != api.OK {
				t.Fatalf("Batch(1, %d): %v, %d", n, got, e)
			}
			holds(t, "Batch", q, all[n:])
			back(t, q, l)
			holds(t, "Batch and Put", q, all)
		})
	}
	orders(all, func(l []api.Waiting) {
		q := queue(t, all...)
		for _, x := range l[:3] {
			q.Drop(x.G)
		}
		for i, x := range all {
			if q.Has(x.G) == slices.Contains(l[:3], all[i]) {
				t.Fatalf("Drop of %v: Has(%v): %v", l[:3], x.G, q.Has(x.G))
			}
		}
		back(t, q, l[:3])
		holds(t, "Drop and Put", q, all)
	})
}

// TestLastComesLast: who has a turn above all others is taken behind all of them, whoever comes ahead meanwhile.
func TestLastComesLast(t *testing.T) {
	for n := range 20 {
		l := row(n)
		last := w(-1, uint64(2*n+3))
		q := queue(t, l...)
		if e := q.Put(last); e != api.OK {
			t.Fatalf("Put(%v): %d", last, e)
		}
		holds(t, "Put of the last", q, append(l, last))
		if e := q.Put(w(-2, 1)); e != api.OK {
			t.Fatalf("Put ahead of all: %d", e)
		}
		takes(t, "Put of the last", q, slices.Concat(list(w(-2, 1)), l, list(last)))
	}
}
