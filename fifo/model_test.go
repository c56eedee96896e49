package fifo_test

import (
	"slices"
	"testing"

	"rota/api"
	"rota/fifo"
)

// model is a queue by the document's words: who waits, in the order in which they came; the least turn is looked for each time.
type model []api.Waiting

func (m *model) put(x api.Waiting) api.Errno {
	for _, y := range *m {
		if x.G.Slot == y.G.Slot && x.G.Gen == y.G.Gen || x.Turn == y.Turn {
			return api.ErrThere
		}
	}
	if len(*m) == limit {
		return api.ErrFull
	}
	*m = append(slices.Clone(*m), x)
	return api.OK
}

// without takes out the one at i.
func (m *model) without(i int) api.Waiting {
	x := (*m)[i]
	*m = slices.Concat((*m)[:i], (*m)[i+1:])
	return x
}

func (m *model) take() (api.Waiting, api.Errno) {
	if len(*m) == 0 {
		return api.Waiting{}, api.ErrNone
	}
	least := 0
	for i, x := range *m {
		if x.Turn < (*m)[least].Turn {
			least = i
		}
	}
	return m.without(least), api.OK
}

func (m *model) drop(g api.Gid) (api.Waiting, api.Errno) {
	for i, x := range *m {
		if x.G == g {
			return m.without(i), api.OK
		}
	}
	return api.Waiting{}, api.ErrNone
}

func (m *model) batch(procs, room int) ([]api.Waiting, api.Errno) {
	if procs < 1 || room < 0 {
		return nil, api.ErrArg
	}
	var l []api.Waiting
	count := len(*m)
	for len(*m) > 0 && len(l) < room && len(l) <= count/procs {
		x, _ := m.take()
		l = append(l, x)
	}
	return l, api.OK
}

func (m model) all() []api.Waiting {
	var l []api.Waiting
	for len(m) > 0 {
		x, _ := m.take()
		l = append(l, x)
	}
	return l
}

// pair is a queue and its model.
type pair struct {
	t *testing.T
	q *fifo.Queue
	m model
}

func (p *pair) put(x api.Waiting) {
	p.t.Helper()
	if e, want := p.q.Put(x), p.m.put(x); e != want {
		p.t.Fatalf("Put(%v): %d, not %d", x, e, want)
	}
}

func (p *pair) take() {
	p.t.Helper()
	x, e := p.q.Take()
	if wx, we := p.m.take(); x != wx || e != we {
		p.t.Fatalf("Take: %v, %d, not %v, %d", x, e, wx, we)
	}
}

func (p *pair) drop(g api.Gid) {
	p.t.Helper()
	x, e := p.q.Drop(g)
	if wx, we := p.m.drop(g); x != wx || e != we {
		p.t.Fatalf("Drop(%v): %v, %d, not %v, %d", g, x, e, wx, we)
	}
}

func (p *pair) batch(procs, room int) {
	p.t.Helper()
	l, e := p.q.Batch(procs, room)
	if wl, we := p.m.batch(procs, room); !slices.Equal(l, wl) || e != we {
		p.t.Fatalf("Batch(%d, %d): %v, %d, not %v, %d", procs, room, l, e, wl, we)
	}
}

// call carries out one of few calls, by its number; of names and turns there are so few that they meet.
func (p *pair) call(n int) {
	p.t.Helper()
	switch {
	case n < 12:
		p.put(api.Waiting{G: api.Gid{Slot: n % 2, Gen: n / 2 % 2}, Turn: uint64(n / 4)})
	case n < 16:
		p.drop(api.Gid{Slot: n % 2, Gen: n / 2 % 2})
	case n < 19:
		p.batch(n-15, 2)
	case n == 19:
		p.batch(0, 2)
	default:
		p.take()
	}
}

// calls is how many numbers call knows.
const calls = 21

// TestShortWalks: any four calls, in each order.
func TestShortWalks(t *testing.T) {
	for n := range calls * calls * calls * calls {
		p := &pair{t: t, q: fifo.New()}
		for range 4 {
			p.call(n % calls)
			n /= calls
		}
		if all := p.m.all(); !slices.Equal(p.q.All(), all) || p.q.Len() != len(all) {
			t.Fatalf("All: %v, Len: %d, not %v", p.q.All(), p.q.Len(), all)
		}
		for slot := range 2 {
			for gen := range 2 {
				g := api.Gid{Slot: slot, Gen: gen}
				if has := slices.ContainsFunc(p.m, func(x api.Waiting) bool { return x.G == g }); p.q.Has(g) != has {
					t.Fatalf("Has(%v): %v, not %v", g, p.q.Has(g), has)
				}
			}
		}
	}
}

// TestLongWalks: queues that grow to many and shrink again, with names and turns that jump about.
func TestLongWalks(t *testing.T) {
	for _, step := range []uint64{1, 7, 613, 999} {
		p := &pair{t: t, q: fifo.New()}
		for n := range uint64(3000) {
			// 1009 is prime: the turns go through all below it, in an order that the step tells.
			turn := n * step % 1009
			p.put(api.Waiting{G: api.Gid{Slot: int(n % 211), Gen: int(n % 3)}, Turn: turn})
			switch n % 17 {
			case 3:
				p.take()
			case 8:
				p.drop(api.Gid{Slot: int(turn % 211), Gen: int(n % 3)})
			case 13:
				p.batch(int(n%40), int(n%9)-1)
			}
			// The model is slow to tell all; the answers are asked at each call.
			if n%50 == 49 && !slices.Equal(p.q.All(), p.m.all()) {
				t.Fatalf("step %d, call %d: %v, not %v", step, n, p.q.All(), p.m.all())
			}
		}
		if p.q.Len() < 100 {
			t.Errorf("step %d: %d wait at the end: the walk is too short to tell anything", step, p.q.Len())
		}
	}
}
