package slab_test

import (
	"slices"
	"testing"

	"rota/api"
	"rota/slab"
)

// nowhere is where slots stand that are in no list.
const nowhere = -1

// place is a slot by the document's words: its list is told by a P, or by the number of Ps for the domain's, and its place there by since when it has been there.
type place struct {
	gen   int
	alive bool
	where int
	since int
}

// model is a slab without lists: they are looked for each time.
type model struct {
	limit, procs int
	slots        []place
	now          int
}

// list is what stands in one, the longest there first.
func (m *model) list(where int) []int {
	var l []int
	for slot, x := range m.slots {
		if x.where == where {
			l = append(l, slot)
		}
	}
	slices.SortFunc(l, func(a, b int) int { return m.slots[a].since - m.slots[b].since })
	return l
}

// move puts slots behind a list, in order.
func (m *model) move(where int, slots ...int) {
	for _, slot := range slots {
		m.now++
		m.slots[slot].where, m.slots[slot].since = where, m.now
	}
}

// pick is the slot that Take takes, or nowhere.
func (m *model) pick(p int) int {
	if l := m.list(p); len(l) > 0 {
		return l[len(l)-1]
	}
	if len(m.slots) < m.limit {
		m.slots = append(m.slots, place{where: nowhere})
		return len(m.slots) - 1
	}
	for _, other := range slices.Concat(span(p+1, m.procs), span(0, p)) {
		if l := m.list(other); len(l) > 0 {
			return l[0]
		}
	}
	return nowhere
}

func (m *model) take(p int) (api.Gid, api.Errno) {
	if p < 0 || p >= m.procs {
		return api.Gid{}, api.ErrArg
	}
	if l := m.list(m.procs); len(m.list(p)) == 0 && len(l) > 0 {
		m.move(p, l[:min(16, len(l))]...)
	}
	slot := m.pick(p)
	if slot == nowhere {
		return api.Gid{}, api.ErrFull
	}
	x := &m.slots[slot]
	*x = place{gen: x.gen + 1, alive: true, where: nowhere}
	return api.Gid{Slot: slot, Gen: x.gen}, api.OK
}

func (m *model) give(p int, g api.Gid) api.Errno {
	if p < 0 || p >= m.procs {
		return api.ErrArg
	}
	if !m.alive(g) {
		return api.ErrStale
	}
	m.slots[g.Slot].alive = false
	if g.Gen == 1<<31-1 {
		return api.OK
	}
	m.move(p, g.Slot)
	if l := m.list(p); len(l) == 64 {
		m.move(m.procs, l[:32]...)
	}
	return api.OK
}

func (m *model) flush(p int) api.Errno {
	if p < 0 || p >= m.procs {
		return api.ErrArg
	}
	m.move(m.procs, m.list(p)...)
	return api.OK
}

func (m *model) alive(g api.Gid) bool {
	for slot, x := range m.slots {
		if slot == g.Slot && x.gen == g.Gen {
			return x.alive
		}
	}
	return false
}

func (m *model) state() api.SlabState {
	s := api.SlabState{Limit: m.limit}
	for _, x := range m.slots {
		s.Gens, s.Alive = append(s.Gens, x.gen), append(s.Alive, x.alive)
	}
	for p := range m.procs {
		s.Caches = append(s.Caches, m.list(p))
	}
	s.Free = m.list(m.procs)
	return s
}

// pair is a slab and its model.
type pair struct {
	t *testing.T
	s *slab.Slab
	m model
}

func newPair(t *testing.T, limit, procs int) *pair {
	t.Helper()
	return &pair{t, fresh(t, limit, procs), model{limit: limit, procs: procs}}
}

func (p *pair) take(proc int) (api.Gid, api.Errno) {
	p.t.Helper()
	g, e := p.s.Take(proc)
	if wg, we := p.m.take(proc); g != wg || e != we {
		p.t.Fatalf("Take(%d): %v, %d, not %v, %d", proc, g, e, wg, we)
	}
	return g, e
}

func (p *pair) give(proc int, g api.Gid) {
	p.t.Helper()
	if e, want := p.s.Give(proc, g), p.m.give(proc, g); e != want {
		p.t.Fatalf("Give(%d, %v): %d, not %d", proc, g, e, want)
	}
}

func (p *pair) flush(proc int) {
	p.t.Helper()
	if e, want := p.s.Flush(proc), p.m.flush(proc); e != want {
		p.t.Fatalf("Flush(%d): %d, not %d", proc, e, want)
	}
}

// told holds the two against each other.
func (p *pair) told() {
	p.t.Helper()
	want := p.m.state()
	if st := p.s.State(); !same(st, want) {
		p.t.Fatalf("State: %v, not %v", st, want)
	}
	live := 0
	for slot, x := range p.m.slots {
		if x.alive {
			live++
		}
		if g := name(slot, x.gen); p.s.Alive(g) != x.alive {
			p.t.Fatalf("Alive(%v): %v", g, !x.alive)
		}
	}
	if p.s.Live() != live {
		p.t.Fatalf("Live: %d, not %d", p.s.Live(), live)
	}
}

// call carries out one of few calls on a slab of two Ps, by its number.
func (p *pair) call(n int) {
	p.t.Helper()
	switch {
	case n < 2:
		p.take(n)
	case n < 4:
		p.flush(n - 2)
	default:
		slot := (n - 4) / 2
		gen := 1
		if slot < len(p.m.slots) {
			gen = p.m.slots[slot].gen
		}
		p.give(n%2, name(slot, gen))
	}
}

// calls is how many numbers call knows: Gives of two slots among them.
const calls = 8

// TestShortWalks: any five calls, in each order, behind each number of Takes.
func TestShortWalks(t *testing.T) {
	for limit := 1; limit < 4; limit++ {
		for n := range calls * calls * calls * calls * calls {
			p := newPair(t, limit, 2)
			for range limit {
				p.take(limit % 2)
			}
			for range 5 {
				p.call(n % calls)
				n /= calls
			}
			p.told()
		}
	}
}

// TestLongWalks: slabs that fill up and empty again, by turns, so that caches overflow and are refilled, and other Ps' are robbed.
func TestLongWalks(t *testing.T) {
	for _, c := range []struct{ limit, procs, tide int }{
		{1, 1, 3}, {40, 1, 100}, {150, 1, 211}, {150, 2, 233}, {200, 3, 333}, {97, 5, 151}, {130, 64, 200},
	} {
		p := newPair(t, c.limit, c.procs)
		var had []api.Gid
		full, robbed := 0, 0
		for n := range 2500 {
			// 1009 is prime: the numbers jump about, in the same way each time.
			jump := n * 613 % 1009
			proc := jump % c.procs
			rising := n/c.tide%2 == 0
			switch {
			case n%97 == 96:
				p.flush(proc)
			case rising && n%7 != 0 || !rising && n%7 == 0:
				made, own := len(p.m.slots), len(p.m.list(proc))+len(p.m.list(c.procs))
				if g, e := p.take(proc); e == api.OK {
					had = append(had, g)
					if own == 0 && made == c.limit {
						robbed++
					}
				} else {
					full++
				}
			case len(had) > 0:
				at := jump % len(had)
				p.give(proc, had[at])
				p.give(proc, had[at])
				had = slices.Delete(had, at, at+1)
			}
			if n%10 == 9 {
				p.told()
				p.s = load(t, p.s.State())
			}
		}
		if full == 0 || c.procs > 1 && robbed == 0 {
			t.Errorf("%v: full %d times, robbed %d times: the walk is too short to tell anything", c, full, robbed)
		}
	}
}
