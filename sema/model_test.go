package sema_test

import (
	"math"
	"math/big"
	"math/rand/v2"
	"slices"
	"testing"

	"rota/api"
	"rota/sema"
)

// The kinds of places in which one waits.
const (
	atLock = iota
	atRead
	atGroup
	atCond
	atSema
)

// seat is a place in which one waits: its kind, its number, and, of a condition, the mutex that will be locked.
type seat struct {
	kind  int
	n     int64
	g     api.Gid
	mutex int64
}

// model is all of it by the document's words, without queues: all places stand in one list, in the order in which they were come to, and are looked for each time.
type model struct {
	locked  map[int64]int
	readers map[int64]int
	groups  map[int64]int64
	semas   map[int64]int64
	seats   []seat
}

func newModel() *model {
	return &model{map[int64]int{}, map[int64]int{}, map[int64]int64{}, map[int64]int64{}, nil}
}

// first is the place in the list of who waits longest in places of some kinds of a number, or -1.
func (m *model) first(n int64, kinds ...int) int {
	return slices.IndexFunc(m.seats, func(s seat) bool { return s.n == n && slices.Contains(kinds, s.kind) })
}

// leave takes the one at a place of the list out of it.
func (m *model) leave(at int) seat {
	s := m.seats[at]
	m.seats = slices.Delete(slices.Clone(m.seats), at, at+1)
	return s
}

// wait lets one wait.
func (m *model) wait(s seat) api.Held {
	m.seats = append(m.seats, s)
	return api.Held{Waits: true}
}

func (m *model) waits(g api.Gid) bool {
	return slices.ContainsFunc(m.seats, func(s seat) bool { return s.g == g })
}

// none tells whether a number is none.
func none(n int64) bool { return n < 0 || n > 255 }

// handOver is the document's words: again and again as long as it goes.
func (m *model) handOver(n int64) (woken []api.Gid) {
	for {
		at := m.first(n, atLock, atRead)
		switch {
		case at >= 0 && m.locked[n] == 0 && m.readers[n] == 0 && m.seats[at].kind == atLock:
			m.locked[n] = 1
		case at >= 0 && m.locked[n] == 0 && m.seats[at].kind == atRead:
			m.readers[n]++
		default:
			return woken
		}
		woken = append(woken, m.leave(at).g)
	}
}

func (m *model) lock(n int64, g api.Gid) api.Held {
	if m.locked[n] == 0 && m.readers[n] == 0 && m.first(n, atLock, atRead) < 0 {
		m.locked[n] = 1
		return api.Held{}
	}
	return m.wait(seat{atLock, n, g, 0})
}

func (m *model) rlock(n int64, g api.Gid) api.Held {
	if m.locked[n] == 0 && m.first(n, atLock, atRead) < 0 {
		if m.readers[n] == math.MaxInt64 {
			return api.Held{Trap: api.TrapNegative}
		}
		m.readers[n]++
		return api.Held{}
	}
	return m.wait(seat{atRead, n, g, 0})
}

func (m *model) unlock(n int64) api.Held {
	if m.locked[n] == 0 {
		return api.Held{Trap: api.TrapUnlock}
	}
	m.locked[n] = 0
	return api.Held{Woken: m.handOver(n)}
}

func (m *model) runlock(n int64) api.Held {
	if m.readers[n] == 0 {
		return api.Held{Trap: api.TrapUnlock}
	}
	m.readers[n]--
	return api.Held{Woken: m.handOver(n)}
}

func (m *model) add(n, d int64) (out api.Held) {
	sum := new(big.Int).Add(big.NewInt(m.groups[n]), big.NewInt(d))
	if !sum.IsInt64() || sum.Sign() < 0 {
		return api.Held{Trap: api.TrapNegative}
	}
	m.groups[n] = sum.Int64()
	for at := m.first(n, atGroup); at >= 0 && m.groups[n] == 0; at = m.first(n, atGroup) {
		out.Woken = append(out.Woken, m.leave(at).g)
	}
	return out
}

func (m *model) join(n int64, g api.Gid) api.Held {
	if m.groups[n] == 0 {
		return api.Held{}
	}
	return m.wait(seat{atGroup, n, g, 0})
}

func (m *model) await(n, mutex int64, g api.Gid) api.Held {
	h := m.unlock(mutex)
	if h.Trap != 0 {
		return h
	}
	m.wait(seat{atCond, n, g, mutex})
	h.Waits = true
	return h
}

func (m *model) signal(n int64) (out api.Held) {
	if at := m.first(n, atCond); at >= 0 {
		s := m.leave(at)
		if !m.lock(s.mutex, s.g).Waits {
			out.Woken = []api.Gid{s.g}
		}
	}
	return out
}

func (m *model) broadcast(n int64) (out api.Held) {
	for m.first(n, atCond) >= 0 {
		out.Woken = append(out.Woken, m.signal(n).Woken...)
	}
	return out
}

func (m *model) acquire(n int64, g api.Gid) api.Held {
	if m.semas[n] > 0 {
		m.semas[n]--
		return api.Held{}
	}
	return m.wait(seat{atSema, n, g, 0})
}

func (m *model) release(n int64) api.Held {
	if at := m.first(n, atSema); at >= 0 {
		return api.Held{Woken: []api.Gid{m.leave(at).g}}
	}
	if m.semas[n] == math.MaxInt64 {
		return api.Held{Trap: api.TrapNegative}
	}
	m.semas[n]++
	return api.Held{}
}

// state is all of it.
func (m *model) state() api.SyncState {
	s := state()
	for n := range int64(number) {
		s.Locks[n].Locked, s.Locks[n].Readers = m.locked[n] == 1, m.readers[n]
		s.Groups[n].Count, s.Semas[n].Count = m.groups[n], m.semas[n]
	}
	for _, x := range m.seats {
		switch x.kind {
		case atLock, atRead:
			s.Locks[x.n].Queue = append(s.Locks[x.n].Queue, api.LockWaiter{G: x.g, Read: x.kind == atRead})
		case atGroup:
			s.Groups[x.n].Queue = append(s.Groups[x.n].Queue, x.g)
		case atCond:
			s.Conds[x.n].Queue = append(s.Conds[x.n].Queue, api.CondWaiter{G: x.g, Mutex: int(x.mutex)})
		case atSema:
			s.Semas[x.n].Queue = append(s.Semas[x.n].Queue, x.g)
		}
	}
	return s
}

// modelOf is the model of a state.
func modelOf(s api.SyncState) *model {
	m := newModel()
	for at := range number {
		n := int64(at)
		if s.Locks[at].Locked {
			m.locked[n] = 1
		}
		m.readers[n], m.groups[n], m.semas[n] = s.Locks[at].Readers, s.Groups[at].Count, s.Semas[at].Count
		for _, w := range s.Locks[at].Queue {
			kind := atLock
			if w.Read {
				kind = atRead
			}
			m.wait(seat{kind, n, w.G, 0})
		}
		for _, g := range s.Groups[at].Queue {
			m.wait(seat{atGroup, n, g, 0})
		}
		for _, w := range s.Conds[at].Queue {
			m.wait(seat{atCond, n, w.G, int64(w.Mutex)})
		}
		for _, g := range s.Semas[at].Queue {
			m.wait(seat{atSema, n, g, 0})
		}
	}
	return m
}

// The calls; those from byItself on take no goroutine.
const (
	doLock = iota
	doRLock
	doWait
	doAwait
	doAcquire
	byItself
	doUnlock
	doRUnlock
	doAdd
	doSignal
	doBroadcast
	doRelease
	kinds
)

// call is one of them, and what it is given; of Await x is the mutex, of Add what is added.
type call struct {
	kind int
	n, x int64
	g    api.Gid
}

// on carries a call out.
func (x call) on(s *sema.Sync) (out result) {
	switch x.kind {
	case doLock:
		out = of(s.Lock(x.n, x.g))
	case doRLock:
		out = of(s.RLock(x.n, x.g))
	case doWait:
		out = of(s.Wait(x.n, x.g))
	case doAwait:
		out = of(s.Await(x.n, x.x, x.g))
	case doAcquire:
		out = of(s.Acquire(x.n, x.g))
	case doUnlock:
		out.h = s.Unlock(x.n)
	case doRUnlock:
		out.h = s.RUnlock(x.n)
	case doAdd:
		out.h = s.Add(x.n, x.x)
	case doSignal:
		out.h = s.Signal(x.n)
	case doBroadcast:
		out.h = s.Broadcast(x.n)
	case doRelease:
		out.h = s.Release(x.n)
	}
	return out
}

// onModel carries it out by the document's words.
func (x call) onModel(m *model) (out result) {
	if x.kind < byItself && m.waits(x.g) {
		return result{e: 111}
	}
	if none(x.n) || x.kind == doAwait && none(x.x) {
		return result{h: api.Held{Trap: api.TrapSema}}
	}
	switch x.kind {
	case doLock:
		out.h = m.lock(x.n, x.g)
	case doRLock:
		out.h = m.rlock(x.n, x.g)
	case doWait:
		out.h = m.join(x.n, x.g)
	case doAwait:
		out.h = m.await(x.n, x.x, x.g)
	case doAcquire:
		out.h = m.acquire(x.n, x.g)
	case doUnlock:
		out.h = m.unlock(x.n)
	case doRUnlock:
		out.h = m.runlock(x.n)
	case doAdd:
		out.h = m.add(x.n, x.x)
	case doSignal:
		out.h = m.signal(x.n)
	case doBroadcast:
		out.h = m.broadcast(x.n)
	case doRelease:
		out.h = m.release(x.n)
	}
	return out
}

// pair is a Sync and its model.
type pair struct {
	t *testing.T
	s *sema.Sync
	m *model
}

// newPair is new ones.
func newPair(t *testing.T) *pair { return &pair{t, sema.New(), newModel()} }

// pairOf is those of a state.
func pairOf(t *testing.T, s api.SyncState) *pair {
	t.Helper()
	return &pair{t, load(t, s), modelOf(s)}
}

// do carries a call out on both, and holds the answers against each other.
func (p *pair) do(x call) result {
	p.t.Helper()
	out, want := x.on(p.s), x.onModel(p.m)
	if !sameHeld(out.h, want.h) || out.e != want.e {
		p.t.Fatalf("%+v: %+v, not %+v; then: %s", x, out, want, brief(p.m.state()))
	}
	return out
}

// told holds what is told of both against each other.
func (p *pair) told() {
	p.t.Helper()
	if s, want := p.s.State(), p.m.state(); !same(s, want) {
		p.t.Fatalf("State: %s, not %s", brief(s), brief(want))
	}
	for _, g := range everybody() {
		if yes, want := p.s.Waits(g), p.m.waits(g); yes != want {
			p.t.Fatalf("Waits(%v): %v", g, yes)
		}
	}
}

// fewCalls is some of each kind, by the number 0 (and a second mutex, 255), by three goroutines.
func fewCalls() []call {
	var l []call
	for _, g := range []api.Gid{a, b, c} {
		l = append(l, call{doLock, 0, 0, g}, call{doRLock, 0, 0, g}, call{doAwait, 0, 0, g}, call{doWait, 0, 0, g})
	}
	l = append(l, call{doLock, last, 0, a}, call{doAwait, 0, last, b}, call{doAcquire, 0, 0, b}, call{doAcquire, 0, 0, c})
	l = append(l, call{kind: doUnlock}, call{kind: doUnlock, n: last}, call{kind: doRUnlock}, call{kind: doSignal}, call{kind: doBroadcast})
	return append(l, call{kind: doAdd, x: 2}, call{kind: doAdd, x: -1}, call{kind: doRelease})
}

// TestShortWalks: any three of few calls, in each order.
func TestShortWalks(t *testing.T) {
	calls := fewCalls()
	n := len(calls)
	for walk := range n * n * n {
		p := newPair(t)
		for range 3 {
			p.do(calls[walk%n])
			walk /= n
		}
		p.told()
	}
}

// TestAllFromHere: each of few calls from each state that few of them lead to, as long as few read and counts are small: the states are many, but not without an end.
func TestAllFromHere(t *testing.T) {
	states, seen := []api.SyncState{state()}, map[string]int{brief(state()): 1}
	for len(states) > 0 {
		from := states[0]
		states = states[1:]
		for _, x := range fewCalls() {
			p := pairOf(t, from)
			p.do(x)
			next := p.m.state()
			p.told()
			small := p.m.readers[0] < 3 && p.m.groups[0] < 2 && p.m.semas[0] < 2
			if key := brief(next); small && seen[key] == 0 && len(seen) < 1200 {
				seen[key]++
				states = append(states, next)
			}
		}
	}
	if len(seen) < 500 {
		t.Errorf("%d states: too few to tell anything", len(seen))
	}
}

// drawn is a call that is drawn by chance, always the same for the same source and what is there.
func drawn(r *rand.Rand, m *model, numbers int64, gs int) call {
	x := call{kind: r.IntN(kinds), n: r.Int64N(numbers), g: api.Gid{Slot: r.IntN(gs) / 2, Gen: r.IntN(2)}}
	if r.IntN(2) == 0 {
		x.n = last - x.n
	}
	switch {
	case x.kind == byItself:
		x.kind = doUnlock
	case x.kind == doAwait:
		x.x = r.Int64N(numbers)
	case x.kind == doAdd && r.IntN(2) == 0:
		// Else those that wait would wait for ever.
		x.x = -m.groups[x.n]
	case x.kind == doAdd:
		x.x = r.Int64N(5) - 2
	}
	switch r.IntN(60) {
	case 0:
		x.n = noNumbers()[r.IntN(len(noNumbers()))]
	case 1:
		x.x = noNumbers()[r.IntN(len(noNumbers()))]
	}
	return x
}

// TestLongWalks: calls by chance, of few and of many numbers, by few and by many goroutines; all is loaded anew now and then.
func TestLongWalks(t *testing.T) {
	for seed, at := range []struct {
		numbers int64
		gs      int
	}{{1, 2}, {1, 6}, {1, 40}, {2, 4}, {2, 20}, {3, 9}, {5, 50}, {9, 12}, {12, 200}, {128, 300}} {
		r := rand.New(rand.NewPCG(uint64(seed), 13))
		p, done := newPair(t), map[int]int{}
		for n := range 12000 {
			// All wait some time, and nobody is left who would let something go: a new walk begins.
			if n%1000 == 0 {
				p = newPair(t)
			}
			x := drawn(r, p.m, at.numbers, at.gs)
			if out := p.do(x); out.e == api.OK && out.h.Trap == api.TrapNone {
				done[x.kind]++
			}
			if n%20 == 19 {
				p.told()
			}
			if n%200 == 199 {
				p = pairOf(t, p.s.State())
			}
		}
		for kind := range kinds {
			if done[kind] < 20 && kind != byItself {
				t.Errorf("%v: %d calls of the kind %d: too few to tell anything", at, done[kind], kind)
			}
		}
	}
}
