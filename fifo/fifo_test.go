package fifo_test

import (
	"math"
	"slices"
	"testing"

	"rota/api"
	"rota/fifo"
)

func TestNewIsEmpty(t *testing.T) {
	holds(t, "New", fifo.New(), nil)
	takes(t, "New", fifo.New(), nil)
	q := fifo.New()
	if x, e := q.Drop(api.Gid{}); x != (api.Waiting{}) || e != api.ErrNone {
		t.Errorf("Drop of nobody's name: %v, %d, not ErrNone", x, e)
	}
	if l, e := q.Batch(1, 1); len(l) > 0 || e != api.OK {
		t.Errorf("Batch of nobody: %v, %d", l, e)
	}
	holds(t, "calls on nobody", q, nil)
}

// TestExamples: those of the chapter.
func TestExamples(t *testing.T) {
	a, b, c, d := w(1, 5), w(2, 3), w(3, 9), w(4, 9)
	q := fifo.New()
	for _, x := range list(a, b, c) {
		if e := q.Put(x); e != api.OK {
			t.Fatalf("Put(%v): %d", x, e)
		}
	}
	holds(t, "Put of a, b, c", q, list(b, a, c))
	for _, x := range list(w(1, 7), d) {
		if e := q.Put(x); e != api.ErrThere {
			t.Errorf("Put(%v): %d, not ErrThere", x, e)
		}
	}
	holds(t, "Put of those that are there", q, list(b, a, c))
	if x, e := q.Take(); x != b || e != api.OK {
		t.Errorf("Take: %v, %d, not %v", x, e, b)
	}
	holds(t, "Take", q, list(a, c))
	if e := q.Put(b); e != api.OK {
		t.Errorf("Put of what was taken: %d", e)
	}
	holds(t, "Put of what was taken", q, list(b, a, c))
	if x, e := q.Drop(a.G); x != a || e != api.OK {
		t.Errorf("Drop: %v, %d, not %v", x, e, a)
	}
	if x, e := q.Drop(a.G); x != (api.Waiting{}) || e != api.ErrNone {
		t.Errorf("Drop again: %v, %d, not ErrNone", x, e)
	}
	takes(t, "Drop", q, list(b, c))
}

func TestPut(t *testing.T) {
	three := list(w(9, 10), w(5, 20), w(7, 30))
	other := api.Waiting{G: api.Gid{Slot: 5, Gen: 2}, Turn: 21}
	low := api.Waiting{G: api.Gid{Slot: math.MinInt, Gen: math.MinInt}, Turn: 0}
	high := api.Waiting{G: api.Gid{Slot: math.MaxInt, Gen: math.MaxInt}, Turn: top}
	for _, c := range []struct {
		what  string
		there []api.Waiting
		x     api.Waiting
		e     api.Errno
		after []api.Waiting
	}{
		{"into nothing", nil, w(1, 1), api.OK, list(w(1, 1))},
		{"all zero", nil, api.Waiting{}, api.OK, list(api.Waiting{})},
		{"ahead of all", three, w(8, 9), api.OK, slices.Concat(list(w(8, 9)), three)},
		{"behind the first", three, w(8, 11), api.OK, list(three[0], w(8, 11), three[1], three[2])},
		{"ahead of the last", three, w(8, 29), api.OK, list(three[0], three[1], w(8, 29), three[2])},
		{"behind all", three, w(8, 31), api.OK, slices.Concat(three, list(w(8, 31)))},
		{"the least turn, any name", three, low, api.OK, slices.Concat(list(low), three)},
		{"the greatest turn, any name", three, high, api.OK, slices.Concat(three, list(high))},
		{"between the least and the greatest turn", list(low, high), w(-3, 1<<63), api.OK, list(low, w(-3, 1<<63), high)},
		{"the same slot, another generation", three, other, api.OK, list(three[0], three[1], other, three[2])},
		{"slot and generation the other way round", three, api.Waiting{G: api.Gid{Slot: 1, Gen: 5}, Turn: 1}, api.OK,
			slices.Concat(list(api.Waiting{G: api.Gid{Slot: 1, Gen: 5}, Turn: 1}), three)},
		{"the very same", three, three[1], api.ErrThere, three},
		{"it waits, and would ahead of all", three, w(7, 1), api.ErrThere, three},
		{"it waits, and would behind all", three, w(9, 99), api.ErrThere, three},
		{"it waits, and would with the greatest turn", three, w(5, top), api.ErrThere, three},
		{"the first one's turn", three, w(8, 10), api.ErrThere, three},
		{"the second one's turn", three, w(8, 20), api.ErrThere, three},
		{"the last one's turn", three, w(8, 30), api.ErrThere, three},
		{"it waits, and the turn is another one's", three, w(9, 30), api.ErrThere, three},
		{"the same slot, another generation, its turn", three, api.Waiting{G: other.G, Turn: 20}, api.ErrThere, three},
		{"the least turn twice", list(low), w(1, 0), api.ErrThere, list(low)},
		{"the greatest turn twice", list(high), w(1, top), api.ErrThere, list(high)},
		{"nobody's name twice", list(api.Waiting{}), api.Waiting{Turn: 1}, api.ErrThere, list(api.Waiting{})},
	} {
		q := queue(t, c.there...)
		if e := q.Put(c.x); e != c.e {
			t.Errorf("%s: Put(%v): %d, not %d", c.what, c.x, e, c.e)
		}
		holds(t, c.what, q, c.after)
		takes(t, c.what, q, c.after)
	}
}

func TestPutIntoAFullQueue(t *testing.T) {
	full := row(limit)
	q := queue(t, full...)
	holds(t, "full", q, full)
	for _, c := range []struct {
		what string
		x    api.Waiting
		e    api.Errno
	}{
		{"ahead of all", w(-1, 1), api.ErrFull},
		{"in the midst", w(-1, limit+1), api.ErrFull},
		{"behind all", w(-1, 2*limit+1), api.ErrFull},
		{"the greatest turn", w(-1, top), api.ErrFull},
		{"one that waits", w(limit, 1), api.ErrThere},
		{"one that waits, last", w(1, top), api.ErrThere},
		{"another one's turn", w(-1, 2), api.ErrThere},
		{"the last one's turn", w(-1, 2*limit), api.ErrThere},
		{"the very same", full[limit/2], api.ErrThere},
	} {
		if e := q.Put(c.x); e != c.e {
			t.Errorf("%s: Put(%v): %d, not %d", c.what, c.x, e, c.e)
		}
	}
	holds(t, "full, and refused", q, full)
	// Whoever leaves makes room for one, not for two.
	if x, e := q.Drop(full[limit/2].G); x != full[limit/2] || e != api.OK {
		t.Fatalf("Drop: %v, %d", x, e)
	}
	if e := q.Put(w(-1, top)); e != api.OK {
		t.Errorf("Put where one has left: %d", e)
	}
	if e := q.Put(w(-2, 1)); e != api.ErrFull {
		t.Errorf("Put where one has left and one has come: %d, not ErrFull", e)
	}
	takes(t, "full again", q, slices.Concat(full[:limit/2], full[limit/2+1:], list(w(-1, top))))
}

func TestLoad(t *testing.T) {
	full := row(limit)
	backward := slices.Clone(full)
	slices.Reverse(backward)
	other := api.Waiting{G: api.Gid{Slot: 4, Gen: 2}, Turn: 4}
	for _, c := range []struct {
		what string
		l    []api.Waiting
		e    api.Errno
		all  []api.Waiting
	}{
		{"nil", nil, api.OK, nil},
		{"the empty list", list(), api.OK, nil},
		{"one", list(w(4, 0)), api.OK, list(w(4, 0))},
		{"in order", list(w(3, 1), w(2, 2), w(1, 3)), api.OK, list(w(3, 1), w(2, 2), w(1, 3))},
		{"in no order", list(w(3, 8), w(2, 1), w(1, 3)), api.OK, list(w(2, 1), w(1, 3), w(3, 8))},
		{"the greatest turn ahead of the least", list(w(1, top), w(2, 0)), api.OK, list(w(2, 0), w(1, top))},
		{"the same slot, another generation", list(w(4, 5), other), api.OK, list(other, w(4, 5))},
		{"as many as can wait", full, api.OK, full},
		{"as many as can wait, backward", backward, api.OK, full},
		{"one too many", append(slices.Clone(full), w(-1, 1)), api.ErrFull, nil},
		{"far too many", row(3 * limit), api.ErrFull, nil},
		{"a goroutine twice", list(w(1, 1), w(2, 2), w(1, 3)), api.ErrThere, nil},
		{"a turn twice", list(w(1, 1), w(2, 2), w(3, 1)), api.ErrThere, nil},
		{"one twice", list(w(1, 1), w(1, 1)), api.ErrThere, nil},
		{"one twice, all zero", make([]api.Waiting, 2), api.ErrThere, nil},
		{"too many, the last one a goroutine twice", append(slices.Clone(full), w(1, 1)), api.ErrThere, nil},
		{"too many, the last one a turn twice", append(slices.Clone(full), w(-1, 2)), api.ErrThere, nil},
		{"too many, and a turn twice ahead", slices.Concat(full[:9], list(w(-1, 2)), full[9:]), api.ErrThere, nil},
		{"too many, and a turn twice behind", slices.Concat(full, list(w(-1, 1), w(-2, 2))), api.ErrFull, nil},
	} {
		q, e := fifo.Load(c.l)
		if e != c.e || (q != nil) != (c.e == api.OK) {
			t.Errorf("%s: Load: %v, %d, not %d", c.what, q, e, c.e)
		} else if e == api.OK {
			holds(t, c.what, q, c.all)
			takes(t, c.what, q, c.all)
		}
	}
}

func TestDrop(t *testing.T) {
	three := list(w(9, 10), api.Waiting{G: api.Gid{Slot: 9, Gen: 2}, Turn: 20}, w(7, 30))
	for i, x := range three {
		q := queue(t, three...)
		if got, e := q.Drop(x.G); got != x || e != api.OK {
			t.Errorf("Drop(%v): %v, %d, not %v", x.G, got, e, x)
		}
		if q.Has(x.G) {
			t.Errorf("Has(%v) behind Drop of it: true", x.G)
		}
		holds(t, "Drop", q, slices.Delete(slices.Clone(three), i, i+1))
		if got, e := q.Drop(x.G); got != (api.Waiting{}) || e != api.ErrNone {
			t.Errorf("Drop(%v) again: %v, %d, not ErrNone", x.G, got, e)
		}
		// With who is dropped goes its turn, which another one may have now.
		if e := q.Put(w(-1, x.Turn)); e != api.OK {
			t.Errorf("Put with the turn of who was dropped: %d", e)
		}
	}
	q := queue(t, three...)
	for _, g := range []api.Gid{{}, {Slot: 9}, {Slot: 9, Gen: 3}, {Slot: 7, Gen: 2}, {Slot: 1, Gen: 7}, {Slot: math.MinInt, Gen: math.MaxInt}} {
		if x, e := q.Drop(g); x != (api.Waiting{}) || e != api.ErrNone || q.Has(g) {
			t.Errorf("Drop(%v) of one that does not wait: %v, %d, Has %v", g, x, e, q.Has(g))
		}
	}
	holds(t, "Drop of those that do not wait", q, three)
}

// TestHas: name by name, with neighbours that have half of a name.
func TestHas(t *testing.T) {
	q := fifo.New()
	var turn uint64
	for slot := -2; slot < 3; slot++ {
		for gen := -2; gen < 3; gen++ {
			g := api.Gid{Slot: slot, Gen: gen}
			if q.Has(g) {
				t.Errorf("Has(%v) ahead of Put: true", g)
			}
			turn++
			if e := q.Put(api.Waiting{G: g, Turn: turn}); e != api.OK {
				t.Errorf("Put(%v): %d", g, e)
			}
			if !q.Has(g) {
				t.Errorf("Has(%v) behind Put: false", g)
			}
		}
	}
	for q.Len() > 0 {
		x, e := q.Take()
		if e != api.OK || q.Has(x.G) {
			t.Errorf("Take: %v, %d, Has %v", x, e, q.Has(x.G))
		}
	}
}
