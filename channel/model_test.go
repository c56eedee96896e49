package channel_test

import (
	"fmt"
	"math/rand/v2"
	"slices"
	"testing"

	"rota/api"
	"rota/channel"
)

// seat is a place in which one waits.
type seat struct {
	ch   int64
	send bool
	w    api.Waiter
}

// model is channels by the document's words, without queues: all places stand in one list, in the order in which they were come to, and are looked for each time.
type model struct {
	caps   []int64
	closed map[int64]int
	held   map[int64][]int64
	seats  []seat
}

func newModel() *model {
	return &model{closed: map[int64]int{}, held: map[int64][]int64{}}
}

// waits tells whether one waits somewhere.
func (m *model) waits(g api.Gid) bool {
	return slices.ContainsFunc(m.seats, func(s seat) bool { return s.w.G == g })
}

// leave takes one out of all places.
func (m *model) leave(g api.Gid) int {
	n := len(m.seats)
	m.seats = slices.DeleteFunc(slices.Clone(m.seats), func(s seat) bool { return s.w.G == g })
	return n - len(m.seats)
}

// first is the one that waits longest on a side of a channel.
func (m *model) first(ch int64, send bool) (api.Waiter, bool) {
	for _, s := range m.seats {
		if s.ch == ch && s.send == send {
			return s.w, true
		}
	}
	return api.Waiter{}, false
}

// none tells whether a handle is no channel's, and not nil.
func (m *model) none(ch int64) bool { return ch < 0 || ch > int64(len(m.caps)) }

func (m *model) send(ch int64, g api.Gid, v int64) (api.Moved, api.Errno) {
	if m.waits(g) {
		return api.Moved{}, 111
	}
	if ch == 0 {
		return api.Moved{Waits: true}, 0
	}
	if m.none(ch) {
		return api.Moved{Trap: api.TrapChan}, 0
	}
	if m.closed[ch] > 0 {
		return api.Moved{Trap: api.TrapSend}, 0
	}
	if w, is := m.first(ch, false); is {
		m.leave(w.G)
		return api.Moved{Ok: true, Woken: []api.Woken{{G: w.G, Case: w.Case, Value: v, Ok: true}}}, 0
	}
	if int64(len(m.held[ch])) < m.caps[ch-1] {
		m.held[ch] = append(m.held[ch], v)
		return api.Moved{Ok: true}, 0
	}
	m.seats = append(m.seats, seat{ch, true, api.Waiter{G: g, Value: v}})
	return api.Moved{Waits: true}, 0
}

func (m *model) recv(ch int64, g api.Gid) (api.Moved, api.Errno) {
	if m.waits(g) {
		return api.Moved{}, 111
	}
	if ch == 0 {
		return api.Moved{Waits: true}, 0
	}
	if m.none(ch) {
		return api.Moved{Trap: api.TrapChan}, 0
	}
	w, is := m.first(ch, true)
	if l := m.held[ch]; len(l) > 0 {
		out := api.Moved{Value: l[0], Ok: true}
		m.held[ch] = slices.Clone(l[1:])
		if is {
			m.leave(w.G)
			out.Woken = []api.Woken{{G: w.G, Case: w.Case, Ok: true}}
			m.held[ch] = append(m.held[ch], w.Value)
		}
		return out, 0
	}
	if is {
		m.leave(w.G)
		return api.Moved{Value: w.Value, Ok: true, Woken: []api.Woken{{G: w.G, Case: w.Case, Ok: true}}}, 0
	}
	if m.closed[ch] > 0 {
		return api.Moved{}, 0
	}
	m.seats = append(m.seats, seat{ch, false, api.Waiter{G: g}})
	return api.Moved{Waits: true}, 0
}

func (m *model) close(ch int64) api.Moved {
	if ch == 0 {
		return api.Moved{Trap: api.TrapNil}
	}
	if m.none(ch) {
		return api.Moved{Trap: api.TrapChan}
	}
	if m.closed[ch] > 0 {
		return api.Moved{Trap: api.TrapClosed}
	}
	m.closed[ch]++
	var out api.Moved
	for w, is := m.first(ch, false); is; w, is = m.first(ch, false) {
		m.leave(w.G)
		out.Woken = append(out.Woken, api.Woken{G: w.G, Case: w.Case})
	}
	for w, is := m.first(ch, true); is; w, is = m.first(ch, true) {
		m.leave(w.G)
		out.Woken = append(out.Woken, api.Woken{G: w.G, Case: w.Case, Trap: api.TrapSend})
	}
	return out
}

func (m *model) wait(ch int64, w api.Waiter, send bool) api.Trap {
	if ch == 0 {
		return 0
	}
	if m.none(ch) {
		return api.TrapChan
	}
	if !send {
		w.Value = 0
	}
	m.seats = append(m.seats, seat{ch, send, w})
	return 0
}

func (m *model) make(capacity int64) (int64, api.Trap) {
	if capacity < 0 || capacity > 1024 || len(m.caps) == 1024 {
		return 0, api.TrapBuffer
	}
	m.caps = append(m.caps, capacity)
	return int64(len(m.caps)), 0
}

// goes is whether a new goroutine's call would not wait: it is carried out, on a copy.
func (m *model) goes(ch int64, send bool) (bool, api.Trap) {
	if ch == 0 {
		return false, 0
	}
	if m.none(ch) {
		return false, api.TrapChan
	}
	n, stranger := newModel(), api.Gid{Slot: -5, Gen: -5}
	n.take(m.state())
	call := call{kind: recv, ch: ch, g: stranger}
	if send {
		call.kind = put
	}
	return !call.onModel(n).moved.Waits, 0
}

// state is all of it.
func (m *model) state() []api.ChanState {
	var l []api.ChanState
	for i, capacity := range m.caps {
		ch := int64(i + 1)
		s := api.ChanState{Cap: int(capacity), Values: slices.Clone(m.held[ch]), Closed: m.closed[ch] > 0}
		for _, x := range m.seats {
			switch {
			case x.ch == ch && x.send:
				s.Senders = append(s.Senders, x.w)
			case x.ch == ch:
				s.Receivers = append(s.Receivers, x.w)
			}
		}
		l = append(l, s)
	}
	return l
}

// take makes a new model that of a state.
func (m *model) take(l []api.ChanState) {
	for i, s := range l {
		ch := int64(i + 1)
		m.caps, m.held[ch] = append(m.caps, int64(s.Cap)), slices.Clone(s.Values)
		if s.Closed {
			m.closed[ch]++
		}
		for _, w := range s.Senders {
			m.seats = append(m.seats, seat{ch, true, w})
		}
		for _, w := range s.Receivers {
			m.seats = append(m.seats, seat{ch, false, w})
		}
	}
}

// The calls.
const (
	grow = iota
	put
	recv
	end
	stand
	leave
	asks
	kinds
)

// call is one of them, and what it is given; what it does not take is zero.
type call struct {
	kind   int
	ch     int64 // of grow the capacity
	g      api.Gid
	number int
	v      int64
	send   bool
}

// answer is what a call answers; what it does not answer is zero.
type answer struct {
	moved  api.Moved
	err    api.Errno
	trap   api.Trap
	number int64
	yes    bool
}

// on carries a call out.
func (x call) on(c *channel.Chans) (out answer) {
	switch x.kind {
	case grow:
		out.number, out.trap = c.Make(x.ch)
	case put:
		out.moved, out.err = c.Send(x.ch, x.g, x.v)
	case recv:
		out.moved, out.err = c.Recv(x.ch, x.g)
	case end:
		out.moved = c.Close(x.ch)
	case stand:
		out.trap = c.Wait(x.ch, api.Waiter{G: x.g, Case: x.number, Value: x.v}, x.send)
	case leave:
		out.number = int64(c.Leave(x.g))
	case asks:
		out.yes, out.trap = c.Goes(x.ch, x.send)
	}
	return out
}

// onModel carries it out by the document's words.
func (x call) onModel(m *model) (out answer) {
	switch x.kind {
	case grow:
		out.number, out.trap = m.make(x.ch)
	case put:
		out.moved, out.err = m.send(x.ch, x.g, x.v)
	case recv:
		out.moved, out.err = m.recv(x.ch, x.g)
	case end:
		out.moved = m.close(x.ch)
	case stand:
		out.trap = m.wait(x.ch, api.Waiter{G: x.g, Case: x.number, Value: x.v}, x.send)
	case leave:
		out.number = int64(m.leave(x.g))
	case asks:
		out.yes, out.trap = m.goes(x.ch, x.send)
	}
	return out
}

// agree tells whether two answers are the same.
func agree(x, y answer) bool {
	return sameMove(x.moved, y.moved) && x.err == y.err && x.trap == y.trap && x.number == y.number && x.yes == y.yes
}

// may tells whether a call may be called: what a Wait leaves must be a state that may be.
func (x call) may(m *model) bool {
	if x.kind != stand {
		return true
	}
	n := newModel()
	n.take(m.state())
	x.onModel(n)
	return !slices.ContainsFunc(n.state(), func(s api.ChanState) bool { return !mayBe(s) })
}

// pair is channels and their model.
type pair struct {
	t *testing.T
	c *channel.Chans
	m *model
}

// newPair is new ones.
func newPair(t *testing.T) *pair { return &pair{t, channel.New(), newModel()} }

// pairOf is those of a state.
func pairOf(t *testing.T, l []api.ChanState) *pair {
	t.Helper()
	m := newModel()
	m.take(l)
	return &pair{t, load(t, l...), m}
}

// do carries a call out on both, and holds the answers against each other.
func (p *pair) do(x call) answer {
	p.t.Helper()
	before := p.m.state()
	out, want := x.on(p.c), x.onModel(p.m)
	if !agree(out, want) {
		p.t.Fatalf("%+v of %+v: %+v, not %+v", x, before, out, want)
	}
	return out
}

// told holds what is told of both against each other.
func (p *pair) told() {
	p.t.Helper()
	if l, want := p.c.State(), p.m.state(); !sameStates(l, want) {
		p.t.Fatalf("State: %+v, not %+v", l, want)
	}
	for _, g := range everybody() {
		if yes, want := p.c.Waits(g), p.m.waits(g); yes != want {
			p.t.Fatalf("Waits(%v): %v", g, yes)
		}
	}
}

// fewCalls is some of each kind on two channels, by three goroutines, one of which selects.
func fewCalls() []call {
	l := []call{{kind: end, ch: 1}, {kind: end, ch: 2}, {kind: leave, g: c}, {kind: leave, g: a}}
	for _, ch := range []int64{1, 2} {
		for _, g := range []api.Gid{a, b} {
			l = append(l, call{kind: put, ch: ch, g: g, v: 1}, call{kind: recv, ch: ch, g: g})
		}
		l = append(l,
			call{kind: stand, ch: ch, g: c, number: int(ch), v: 7, send: true},
			call{kind: stand, ch: ch, g: c, number: int(ch + 2), v: 8},
			call{kind: asks, ch: ch, send: true}, call{kind: asks, ch: ch})
	}
	return l
}

// capacities is those of two channels, in each way that matters.
func capacities() [][]int64 { return [][]int64{{0, 0}, {0, 1}, {1, 1}, {2, 0}} }

// TestShortWalks: any four of few calls, in each order, those that may be called.
func TestShortWalks(t *testing.T) {
	calls := fewCalls()
	n := len(calls)
	for _, caps := range capacities()[:2] {
		for walk := range n * n * n * n {
			p := newPair(t)
			for _, capacity := range caps {
				p.do(call{kind: grow, ch: capacity})
			}
			for step := range 4 {
				x := calls[walk%n]
				walk /= n
				x.v *= int64(step + 1)
				if x.may(p.m) {
					p.do(x)
				}
			}
			p.told()
		}
	}
}

// TestAllFromHere: each of few calls from each state that they lead to, as long as one goroutine waits in few places and few values are told apart: the states are many, but not without an end.
func TestAllFromHere(t *testing.T) {
	for _, caps := range capacities() {
		p := newPair(t)
		for _, capacity := range caps {
			p.do(call{kind: grow, ch: capacity})
		}
		states := [][]api.ChanState{p.m.state()}
		seen := map[string]int{fmt.Sprint(p.m.state()): 1}
		for len(states) > 0 {
			from := states[0]
			states = states[1:]
			for _, x := range fewCalls() {
				p := pairOf(t, from)
				if !x.may(p.m) {
					continue
				}
				p.do(x)
				p.told()
				next := p.m.state()
				if key := fmt.Sprint(next); seen[key] == 0 && len(p.m.seats) < 5 {
					seen[key]++
					states = append(states, next)
				}
			}
		}
		if len(seen) < 300 {
			t.Errorf("%v: %d states: too few to tell anything", caps, len(seen))
		}
	}
}

// drawn is a call that is drawn by chance, always the same for the same source.
func drawn(r *rand.Rand, channels int64, names int) call {
	x := call{kind: r.IntN(kinds), ch: 1 + r.Int64N(channels), number: r.IntN(16), v: r.Int64(), send: r.IntN(2) == 0}
	x.g = api.Gid{Slot: r.IntN(names) / 2, Gen: r.IntN(2)}
	switch {
	case x.kind == grow:
		x.ch = r.Int64N(5) - 1
	case x.kind == end && r.IntN(4) > 0, x.kind == leave && r.IntN(2) > 0:
		x.kind = put
	case r.IntN(40) == 0:
		x.ch = r.Int64N(channels+4) - 2
	}
	return x
}

// TestLongWalks: calls by chance, on few and on many channels, by few and by many goroutines; the channels are loaded anew now and then.
func TestLongWalks(t *testing.T) {
	for seed, at := range []struct {
		channels int64
		names    int
	}{{1, 2}, {1, 6}, {2, 4}, {2, 20}, {3, 9}, {5, 5}, {5, 40}, {9, 12}, {12, 60}, {40, 100}} {
		r := rand.New(rand.NewPCG(uint64(seed), 11))
		p, done := newPair(t), map[int]int{}
		for n := range 6000 {
			// All are closed some time: a new set begins.
			if n%600 == 0 {
				p = newPair(t)
				for range at.channels {
					p.do(call{kind: grow, ch: r.Int64N(4)})
				}
			}
			x := drawn(r, at.channels, at.names)
			if x.may(p.m) {
				done[x.kind]++
				p.do(x)
			}
			if n%10 == 9 {
				p.told()
			}
			if n%200 == 199 {
				p = pairOf(t, p.c.State())
			}
		}
		for kind := range kinds {
			if done[kind] < 20 {
				t.Errorf("%v: %d calls of the kind %d: too few to tell anything", at, done[kind], kind)
			}
		}
	}
}
