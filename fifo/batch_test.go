package fifo_test

import (
	"math"
	"slices"
	"testing"

	"rota/api"
	"rota/fifo"
)

// batch asks for one: the first n of a queue, the others stay.
func batch(t *testing.T, l []api.Waiting, procs, room, n int) {
	t.Helper()
	q, e := fifo.Load(l)
	if e != api.OK {
		t.Fatalf("Load: %d", e)
	}
	if got, e := q.Batch(procs, room); !slices.Equal(got, l[:n]) || e != api.OK {
		t.Errorf("Batch(%d, %d) of %d: %v, %d, not %d", procs, room, len(l), got, e, n)
	}
	if !slices.Equal(q.All(), l[n:]) || q.Len() != len(l)-n {
		t.Errorf("Batch(%d, %d) of %d: %v wait still", procs, room, len(l), q.All())
	}
	for i, x := range l {
		if q.Has(x.G) != (i >= n) {
			t.Fatalf("Batch(%d, %d) of %d: Has of the one at %d: %v", procs, room, len(l), i, q.Has(x.G))
		}
	}
}

func TestBatchExamples(t *testing.T) {
	three := list(w(2, 3), w(1, 5), w(3, 9))
	batch(t, three, 1, 10, 3)
	batch(t, three, 2, 10, 2)
	batch(t, three, 2, 1, 1)
	batch(t, three, 4, 10, 1)
	batch(t, three, 4, 0, 0)
}

// share is how many times procs goes into count, counted out.
func share(count, procs int) int {
	n := 0
	for count >= procs {
		count, n = count-procs, n+1
	}
	return n
}

// TestBatchIsTheLeast: of how many wait, of the room, and of a processor's share and one more, whichever it is.
func TestBatchIsTheLeast(t *testing.T) {
	for count := range 14 {
		l := row(count)
		for procs := 1; procs < 17; procs++ {
			for room := range 17 {
				n := count
				if room < n {
					n = room
				}
				if s := share(count, procs) + 1; s < n {
					n = s
				}
				batch(t, l, procs, room, n)
			}
		}
	}
}

func TestBatchOfMany(t *testing.T) {
	full := row(limit)
	for _, c := range []struct{ procs, room, n int }{
		{1, limit - 1, limit - 1},
		{1, limit, limit},
		{1, limit + 1, limit},
		{1, math.MaxInt, limit},
		{2, math.MaxInt, limit/2 + 1},
		{3, math.MaxInt, limit/3 + 1},
		{api.MaxProcs, api.RingSize, api.RingSize},
		{api.MaxProcs, math.MaxInt, limit/api.MaxProcs + 1},
		{limit - 1, math.MaxInt, 2},
		{limit, math.MaxInt, 2},
		{limit + 1, math.MaxInt, 1},
		{math.MaxInt, math.MaxInt, 1},
		{math.MaxInt, 0, 0},
	} {
		batch(t, full, c.procs, c.room, c.n)
	}
	batch(t, nil, 1, math.MaxInt, 0)
	batch(t, nil, math.MaxInt, 0, 0)
}

func TestBatchRefuses(t *testing.T) {
	for _, l := range [][]api.Waiting{nil, row(1), row(5)} {
		q := queue(t, l...)
		for _, c := range [][2]int{{0, 1}, {-1, 1}, {math.MinInt, 1}, {0, 0}, {1, -1}, {1, math.MinInt}, {0, -1}, {math.MinInt, math.MinInt}, {math.MaxInt, -1}, {-1, math.MaxInt}} {
			if got, e := q.Batch(c[0], c[1]); len(got) > 0 || e != api.ErrArg {
				t.Errorf("Batch(%d, %d) of %d: %v, %d, not ErrArg", c[0], c[1], len(l), got, e)
			}
			holds(t, "Batch that is refused", q, l)
		}
	}
}
