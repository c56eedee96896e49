package ring_test

import (
	"slices"
	"testing"

	"rota/api"
	"rota/ring"
)

// model is a ring by the document's words: lists that are made anew at each change.
type model struct {
	places []api.Waiting
	next   []api.Waiting
}

func (m *model) state() api.RingState {
	s := api.RingState{Places: m.places}
	if len(m.next) > 0 {
		s.Has, s.Next = true, m.next[0]
	}
	return s
}

func (m *model) behind(l []api.Waiting) []api.Waiting {
	if len(l) == 0 {
		return nil
	}
	if len(m.places) < size {
		m.places = slices.Concat(m.places, l)
		return nil
	}
	left := slices.Concat(m.places[:size/2], l)
	m.places = slices.Clone(m.places[size/2:])
	return left
}

func (m *model) put(x api.Waiting) ([]api.Waiting, api.Errno) {
	for _, p := range m.places {
		if x.Turn <= p.Turn {
			return nil, api.ErrOrder
		}
	}
	for _, p := range m.next {
		if x.Turn >= p.Turn {
			return nil, api.ErrOrder
		}
	}
	return m.behind([]api.Waiting{x}), api.OK
}

func (m *model) ready(x api.Waiting) ([]api.Waiting, api.Errno) {
	for _, p := range slices.Concat(m.places, m.next) {
		if x.Turn <= p.Turn {
			return nil, api.ErrOrder
		}
	}
	left := m.behind(m.next)
	m.next = []api.Waiting{x}
	return left, api.OK
}

func (m *model) kick() []api.Waiting {
	left := m.behind(m.next)
	m.next = nil
	return left
}

func (m *model) take() (api.Waiting, bool, api.Errno) {
	if len(m.next) > 0 {
		x := m.next[0]
		m.next = nil
		return x, true, api.OK
	}
	if len(m.places) > 0 {
		x := m.places[0]
		m.places = slices.Clone(m.places[1:])
		return x, false, api.OK
	}
	return api.Waiting{}, false, api.ErrEmpty
}

func (m *model) drain() []api.Waiting {
	all := slices.Concat(m.places, m.next)
	m.places, m.next = nil, nil
	return all
}

func modelSteal(from, to *model) (api.Waiting, api.Errno) {
	if from == to {
		return api.Waiting{}, api.ErrArg
	}
	if len(to.places)+len(to.next) > 0 {
		return api.Waiting{}, api.ErrBusy
	}
	n := len(from.places)
	if n == 0 {
		x, _, e := from.take()
		return x, e
	}
	leave := n - n/2
	x := from.places[0]
	to.places = slices.Clone(from.places[1:leave])
	from.places = slices.Clone(from.places[leave:])
	return x, api.OK
}

// dice answers numbers that are the same in each test.
type dice struct{ x uint64 }

func (d *dice) below(n uint64) uint64 {
	d.x = d.x*6364136223846793005 + 1442695040888963407
	return d.x >> 33 % n
}

// walk is some rings, their models, the turns that were given, and who went in and was not answered yet.
type walk struct {
	t      *testing.T
	rings  []*ring.Ring
	models []*model
	turn   uint64
	in     map[api.Waiting]int
}

// went counts one in, if it went in, and those out that left.
func (k *walk) went(x api.Waiting, e api.Errno, left []api.Waiting) {
	if e == api.OK {
		k.in[x]++
	}
	k.out(left...)
}

func (k *walk) out(l ...api.Waiting) {
	k.t.Helper()
	for _, x := range l {
		k.in[x]--
		if k.in[x] < 0 {
			k.t.Fatalf("%v left, and was not there", x)
		}
		if k.in[x] == 0 {
			delete(k.in, x)
		}
	}
}

// drawn is a turn: mostly a new one, behind a gap; now and then one that was given, or lies in a gap.
func (k *walk) drawn(d *dice) api.Waiting {
	if d.below(6) == 0 {
		return w(k.turn - min(k.turn, d.below(6)))
	}
	k.turn += 1 + d.below(3)
	return w(k.turn)
}

// call carries out one call on a ring and on its model.
func (k *walk) call(d *dice, kinds uint64) {
	t, i := k.t, d.below(uint64(len(k.rings)))
	r, m := k.rings[i], k.models[i]
	switch kind := d.below(kinds); kind {
	case 0, 1, 2, 3, 4, 5:
		call, says, x := r.Put, m.put, k.drawn(d)
		if kind > 3 {
			call, says = r.Ready, m.ready
		}
		left, e := call(x)
		wants, we := says(x)
		if e != we || !slices.Equal(left, wants) {
			t.Fatalf("%v in: %v, %d, not %v, %d", x, left, e, wants, we)
		}
		k.went(x, e, left)
	case 6:
		left, wants := r.Kick(), m.kick()
		if !slices.Equal(left, wants) {
			t.Fatalf("Kick: %v, not %v", left, wants)
		}
		k.out(left...)
	case 7:
		k.theft(d, r, m)
	case 8:
		if d.below(40) == 0 {
			l, wants := r.Drain(), m.drain()
			if !slices.Equal(l, wants) {
				t.Fatalf("Drain: %v, not %v", l, wants)
			}
			k.out(l...)
		}
	default:
		x, next, e := r.Take()
		wx, wnext, we := m.take()
		if x != wx || next != wnext || e != we {
			t.Fatalf("Take: %v, %v, %d, not %v, %v, %d", x, next, e, wx, wnext, we)
		}
		if e == api.OK {
			k.out(x)
		}
	}
}

// theft steals from a ring into any one, and asks R7 and R9 of it.
func (k *walk) theft(d *dice, r *ring.Ring, m *model) {
	t, j := k.t, d.below(uint64(len(k.rings)))
	was := r.State()
	x, e := ring.Steal(r, k.rings[j])
	wx, we := modelSteal(m, k.models[j])
	if x != wx || e != we {
		t.Fatalf("Steal: %v, %d, not %v, %d", x, e, wx, we)
	}
	if e != api.OK {
		return
	}
	k.out(x)
	if len(was.Places) == 0 {
		return
	}
	for _, p := range was.Places {
		if x.Turn > p.Turn {
			t.Fatalf("Steal: %v, and %v is older", x, p)
		}
	}
	taken, stay := 1+k.rings[j].Len(), len(r.State().Places)
	if taken < stay || taken > stay+1 || taken+stay != len(was.Places) {
		t.Fatalf("Steal of %d places: %d are taken, %d stay", len(was.Places), taken, stay)
	}
}

// sound asks of all rings that they are as their models, that turns rise, and that just those are there that went in.
func (k *walk) sound() {
	k.t.Helper()
	there := map[api.Waiting]int{}
	for i, r := range k.rings {
		s := r.State()
		if !same(s, k.models[i].state()) || r.Len() != count(s) {
			k.t.Fatalf("ring %d: %+v, not %+v", i, s, k.models[i].state())
		}
		all := s.Places
		if s.Has {
			all = append(slices.Clone(all), s.Next)
		}
		for j, x := range all {
			there[x]++
			if j > 0 && x.Turn <= all[j-1].Turn {
				k.t.Fatalf("ring %d: turns do not rise: %v", i, all)
			}
		}
		again, e := ring.Load(s)
		if e != api.OK || !same(again.State(), s) {
			k.t.Fatalf("Load of a state that was told: %d", e)
		}
	}
	if len(there) != len(k.in) {
		k.t.Fatalf("%d are there, %d went in and did not leave", len(there), len(k.in))
	}
	for x, n := range k.in {
		if there[x] != n {
			k.t.Fatalf("%v is there %d times, and went in %d times", x, there[x], n)
		}
	}
}

// TestWalks: any calls in any order, on up to four rings: each answers as its model does (R1 to R5), and R6 to R9 hold behind each.
func TestWalks(t *testing.T) {
	for _, c := range []struct {
		rings int
		kinds uint64 // the more of them, the more is taken out again
	}{{1, 9}, {1, 12}, {2, 9}, {3, 11}, {4, 14}, {4, 20}} {
		for seed := range uint64(4) {
			k, d := &walk{t: t, in: map[api.Waiting]int{}}, &dice{seed*977 + c.kinds}
			for range c.rings {
				k.rings, k.models = append(k.rings, ring.New()), append(k.models, &model{})
			}
			for range 2500 {
				k.call(d, c.kinds)
				k.sound()
			}
		}
	}
}
