package port_test

import (
	"math/rand/v2"
	"testing"

	"rota/api"
	"rota/port"
)

// came is a value of the model that can be got, and the number of the delivery that brought it.
type came struct {
	v  int64
	at int
}

// model is a port by the document's words. Ages and losses are reckoned without a bound when they are told, and nothing is counted up.
type model struct {
	queue      bool
	capacity   int
	out        []int64
	in         []came
	deliveries int
	lost       int
}

// modelOf is one of a state: what was there came by deliveries ahead of the first one.
func modelOf(s api.PortState) *model {
	m := &model{queue: s.Queue, capacity: s.Cap, lost: s.Lost}
	m.out = append(m.out, s.Out...)
	for _, x := range s.In {
		m.in = append(m.in, came{x.Value, -x.Age})
	}
	return m
}

func (m *model) age(x came) int { return min(m.deliveries-x.at, most) }

func (m *model) state() api.PortState {
	s := api.PortState{Queue: m.queue, Cap: m.capacity, Out: m.out, Lost: min(m.lost, most)}
	for _, x := range m.in {
		s.In = append(s.In, api.Aged{Value: x.v, Age: m.age(x)})
	}
	return s
}

func (m *model) put(v int64) bool {
	switch {
	case !m.queue:
		m.out = []int64{v}
	case len(m.out) >= m.capacity:
		return false
	default:
		m.out = append(m.out, v)
	}
	return true
}

func (m *model) get() (int64, int) {
	if len(m.in) == 0 {
		return 0, -1
	}
	x := m.in[0]
	if m.queue {
		m.in = m.in[1:]
	}
	return x.v, m.age(x)
}

func (m *model) deliver() {
	m.deliveries++
	if !m.queue && len(m.out) > 0 {
		m.in = nil
	}
	for _, v := range m.out {
		if len(m.in) < m.capacity {
			m.in = append(m.in, came{v, m.deliveries})
		} else {
			m.lost++
		}
	}
	m.out = nil
}

// The kinds of calls.
const (
	doPut = iota
	doGet
	doDeliver
	kinds
)

// pair is a port and the model, to which the same is done.
type pair struct {
	t *testing.T
	p *port.Port
	m *model
	l []int // the calls that were made
	n int64 // the value that was put last
}

// pairOf is a port of a state, and its model.
func pairOf(t *testing.T, s api.PortState) *pair {
	t.Helper()
	return &pair{t: t, p: load(t, s), m: modelOf(s)}
}

// do carries a call out on both, and holds the answers against each other: did it do something?
func (p *pair) do(kind int) bool {
	p.t.Helper()
	p.l = append(p.l, kind)
	switch kind {
	case doPut:
		p.n++
		yes, want := p.p.Put(p.n), p.m.put(p.n)
		if yes != want {
			p.t.Fatalf("behind %v: Put(%d): %v", p.l, p.n, yes)
		}
		return yes
	case doGet:
		v, age := p.p.Get()
		w, a := p.m.get()
		if v != w || age != a {
			p.t.Fatalf("behind %v: Get: %d, %d, not %d, %d", p.l, v, age, w, a)
		}
		return age >= 0
	}
	some := len(p.m.out) > 0
	p.p.Deliver()
	p.m.deliver()
	return some
}

// told holds all that is told against each other.
func (p *pair) told() {
	p.t.Helper()
	if s, want := p.p.State(), p.m.state(); !same(s, want) {
		p.t.Fatalf("behind %v: State: %+v, not %+v", p.l, s, want)
	}
}

// smallKinds is new ports of both kinds, with so little room that few calls fill it.
func smallKinds() []api.PortState {
	return []api.PortState{sampled(nil, nil), queued(1, nil, nil, 0), queued(2, nil, nil, 0), queued(3, nil, nil, 0)}
}

// walks calls do with all walks of n calls.
func walks(n int, do func(l []int)) {
	l := make([]int, n)
	var at func(i int)
	at = func(i int) {
		if i == n {
			do(l)
			return
		}
		for kind := range kinds {
			l[i] = kind
			at(i + 1)
		}
	}
	at(0)
}

// TestAllShortWalks: M1 to M4: all walks of nine calls, looked at behind each call.
func TestAllShortWalks(t *testing.T) {
	for _, s := range smallKinds() {
		walks(9, func(l []int) {
			p := &pair{t: t, p: made(t, s.Queue, s.Cap), m: modelOf(s)}
			for _, kind := range l {
				p.do(kind)
				p.told()
			}
		})
	}
}

// smallStates is all small states that may be, with edges in them.
func smallStates() (l []api.PortState) {
	for _, in := range allAges([]int64{0, 1, 2, most - 1, most}, 3) {
		for capacity := 1; capacity <= 3; capacity++ {
			for n := range 4 {
				for _, lost := range []int{0, 1, most - 2, most - 1, most} {
					l = append(l, queued(capacity, from(-9, n), in, lost))
				}
				l = append(l, api.PortState{Cap: capacity, Out: from(-9, n), In: in})
			}
		}
	}
	may := l[:0]
	for _, s := range l {
		if mayBe(s) {
			may = append(may, s)
		}
	}
	return may
}

// TestShortWalksFromStates: M1 to M4: all walks of four calls from all small states.
func TestShortWalksFromStates(t *testing.T) {
	all := smallStates()
	if len(all) < 300 {
		t.Fatalf("%d states: too few to tell anything", len(all))
	}
	for _, s := range all {
		walks(4, func(l []int) {
			p := pairOf(t, s)
			for _, kind := range l {
				p.do(kind)
			}
			p.told()
		})
	}
}

// TestLongWalks: M1 to M4: calls by chance, of each kind in other shares, from several states; all is loaded anew now and then.
func TestLongWalks(t *testing.T) {
	for n, s := range states() {
		for seed, shares := range [][]int{{1, 1, 1}, {8, 2, 1}, {3, 9, 2}, {40, 20, 1}, {500, 240, 1}} {
			r := rand.New(rand.NewPCG(uint64(seed), uint64(n)))
			p, done := pairOf(t, s), map[int]int{}
			for step := range 6000 {
				kind, x := 0, r.IntN(shares[0]+shares[1]+shares[2])
				for x >= shares[kind] {
					x -= shares[kind]
					kind++
				}
				if p.do(kind) {
					done[kind]++
				}
				if step%50 == 49 {
					p.told()
					p.l = nil
				}
				if step%500 == 499 {
					last := p.n
					p = pairOf(t, p.p.State())
					p.n = last
				}
			}
			for kind := range kinds {
				if done[kind] == 0 {
					t.Errorf("of %v no call of the kind %d did anything: too little to tell anything", shares, kind)
				}
			}
		}
	}
}
