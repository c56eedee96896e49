package fifo_test

import (
	"math"
	"slices"
	"testing"

	"rota/api"
	"rota/fifo"
)

const (
	limit = api.MaxGs
	top   = math.MaxUint64 // the greatest turn
)

// w is one that waits: its slot, in the first generation, and its turn.
func w(slot int, turn uint64) api.Waiting {
	return api.Waiting{G: api.Gid{Slot: slot, Gen: 1}, Turn: turn}
}

// list is some that wait.
func list(l ...api.Waiting) []api.Waiting { return l }

// row is n that wait, in order: each second turn from 2 on, and slots that fall, so that the order of names is another one.
func row(n int) []api.Waiting {
	var l []api.Waiting
	for i := range n {
		l = append(l, w(limit-i, uint64(2*i+2)))
	}
	return l
}

// queue is one in which those wait, put from the last on, so that it is no copy of the list.
func queue(t *testing.T, l ...api.Waiting) *fifo.Queue {
	t.Helper()
	q := fifo.New()
	for _, x := range slices.Backward(l) {
		if e := q.Put(x); e != api.OK {
			t.Fatalf("Put(%v): %d", x, e)
		}
	}
	return q
}

// holds asks a queue by all that tell who waits: just those, in that order.
func holds(t *testing.T, what string, q *fifo.Queue, l []api.Waiting) {
	t.Helper()
	if all := q.All(); !slices.Equal(all, l) {
		t.Errorf("%s: All: %v, not %v", what, all, l)
	}
	if n := q.Len(); n != len(l) {
		t.Errorf("%s: Len: %d, not %d", what, n, len(l))
	}
	for _, x := range l {
		if !q.Has(x.G) {
			t.Errorf("%s: Has(%v): false", what, x.G)
		}
	}
	for _, g := range []api.Gid{{}, {Slot: -7, Gen: -7}, {Slot: 77777, Gen: 1}} {
		if q.Has(g) != slices.ContainsFunc(l, func(x api.Waiting) bool { return x.G == g }) {
			t.Errorf("%s: Has(%v): %v", what, g, q.Has(g))
		}
	}
}

// takes asks for all of a queue by Take: just those, in that order, and then nobody.
func takes(t *testing.T, what string, q *fifo.Queue, l []api.Waiting) {
	t.Helper()
	for _, want := range l {
		if x, e := q.Take(); x != want || e != api.OK {
			t.Fatalf("%s: Take: %v, %d, not %v", what, x, e, want)
		}
	}
	if x, e := q.Take(); x != (api.Waiting{}) || e != api.ErrNone {
		t.Errorf("%s: Take of nobody: %v, %d, not ErrNone", what, x, e)
	}
}

// orders calls one with each order of a list.
func orders(l []api.Waiting, each func([]api.Waiting)) {
	if len(l) == 0 {
		each(nil)
		return
	}
	orders(l[1:], func(rest []api.Waiting) {
		for i := range len(rest) + 1 {
			each(slices.Insert(slices.Clone(rest), i, l[0]))
		}
	})
}
