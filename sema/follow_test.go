package sema_test

import (
	"math/rand/v2"
	"slices"
	"testing"

	"rota/api"
	"rota/sema"
)

// few is how many there are of each kind in a record.
const few = 3

// asked is what a goroutine waits for, and since when.
type asked struct {
	kind  int
	n     int64
	mutex int64 // of a condition: the one that it locks behind that
	since int
}

// record is what was done, from outside: who asked for what, and who has what. It tells nothing of queues.
type record struct {
	t        *testing.T
	s        *sema.Sync
	clock    int
	asks     map[api.Gid]asked
	lockers  [few]int // how many have a mutex to lock
	readers  [few]int
	acquired [few]int
	released [few]int
	woken    int
}

func newRecord(t *testing.T) *record {
	return &record{t: t, s: sema.New(), asks: map[api.Gid]asked{}}
}

// got notes what a goroutine got, by its call or by being woken.
func (r *record) got(kind int, n int64) {
	switch kind {
	case atLock:
		r.lockers[n]++
	case atRead:
		r.readers[n]++
	case atSema:
		r.acquired[n]++
	}
	r.holds()
}

// holds holds what is held against K6 and K8.
func (r *record) holds() {
	r.t.Helper()
	for n := range few {
		if r.lockers[n] > 1 || r.lockers[n] > 0 && r.readers[n] > 0 {
			r.t.Fatalf("the mutex %d is locked by %d and read by %d", n, r.lockers[n], r.readers[n])
		}
		if r.acquired[n] > r.released[n] {
			r.t.Fatalf("the semaphore %d was acquired %d times and released %d times", n, r.acquired[n], r.released[n])
		}
	}
}

// queue is which of the queues one waits in: those that lock and those that read a mutex wait in one.
func (x asked) queue() (int, int64) {
	if x.kind == atRead {
		return atLock, x.n
	}
	return x.kind, x.n
}

// wake notes those that were woken, and holds them against K7: nobody waits longer in that queue.
func (r *record) wake(l []api.Gid) {
	r.t.Helper()
	for _, g := range l {
		x, is := r.asks[g]
		if !is || r.s.Waits(g) {
			r.t.Fatalf("%v is woken, and did not wait, or does still", g)
		}
		delete(r.asks, g)
		kind, n := x.queue()
		for other, y := range r.asks {
			if k, m := y.queue(); k == kind && m == n && y.since < x.since {
				r.t.Fatalf("%v, who waits since %d, is woken ahead of %v, who does since %d", g, x.since, other, y.since)
			}
		}
		r.woken++
		r.got(x.kind, x.n)
	}
}

// ask carries out a call of a goroutine.
func (r *record) ask(x call) {
	r.t.Helper()
	kind := map[int]int{doLock: atLock, doRLock: atRead, doWait: atGroup, doAwait: atCond, doAcquire: atSema}[x.kind]
	out := x.on(r.s)
	switch {
	case out.e != api.OK || out.h.Trap != api.TrapNone:
		return
	case x.kind == doAwait:
		r.lockers[x.x]--
	}
	r.wake(out.h.Woken)
	if out.h.Waits {
		r.asks[x.g] = asked{kind, x.n, x.x, r.clock}
		return
	}
	r.got(kind, x.n)
}

// tell carries out a call of nobody.
func (r *record) tell(x call) {
	r.t.Helper()
	if out := x.on(r.s); out.h.Trap == api.TrapNone {
		switch x.kind {
		case doUnlock:
			r.lockers[x.n]--
		case doRUnlock:
			r.readers[x.n]--
		case doRelease:
			r.released[x.n]++
		case doSignal:
			r.signalled(x.n, 1)
		case doBroadcast:
			r.signalled(x.n, len(r.asks))
		}
		r.wake(out.h.Woken)
	}
}

// signalled lets those that wait longest for a condition wait for their mutexes from now on, one behind the other.
func (r *record) signalled(n int64, most int) {
	var l []api.Gid
	for g, x := range r.asks {
		if x.kind == atCond && x.n == n {
			l = append(l, g)
		}
	}
	slices.SortFunc(l, func(g, h api.Gid) int { return r.asks[g].since - r.asks[h].since })
	for _, g := range l[:min(most, len(l))] {
		r.clock++
		r.asks[g] = asked{kind: atLock, n: r.asks[g].mutex, since: r.clock}
	}
}

// nobodyInVain holds what is told against K6 and K7: nobody waits for what is free.
func (r *record) nobodyInVain() {
	r.t.Helper()
	s := r.s.State()
	for n := range few {
		m := s.Locks[n]
		if m.Locked != (r.lockers[n] == 1) || m.Readers != r.readers[n] || m.Locked && m.Readers > 0 {
			r.t.Fatalf("the mutex %d is %+v, locked by %d and read by %d", n, m, r.lockers[n], r.readers[n])
		}
		if len(m.Queue) > 0 && !m.Locked && (m.Readers == 0 || m.Queue[0].Read) {
			r.t.Fatalf("the mutex %d: somebody waits in vain: %+v", n, m)
		}
		if len(s.Groups[n].Queue) > 0 && s.Groups[n].Count == 0 || len(s.Semas[n].Queue) > 0 && s.Semas[n].Count > 0 {
			r.t.Fatalf("%d: somebody waits in vain: %+v, %+v", n, s.Groups[n], s.Semas[n])
		}
		if left := r.released[n] - r.acquired[n]; s.Semas[n].Count != int64(left) {
			r.t.Fatalf("the semaphore %d is %+v, and %d are left", n, s.Semas[n], left)
		}
	}
	if there := standing(s); len(there) != len(r.asks) {
		r.t.Fatalf("%d wait, not %d", len(there), len(r.asks))
	}
	for g := range r.asks {
		if !r.s.Waits(g) {
			r.t.Fatalf("%v does not wait any more", g)
		}
	}
}

// TestWhatFollows: K6, K7, K8: calls by chance, of many goroutines.
func TestWhatFollows(t *testing.T) {
	total := 0
	for seed := range uint64(30) {
		source := rand.New(rand.NewPCG(seed, 8))
		r := newRecord(t)
		for range 1500 {
			r.clock++
			x := call{kind: source.IntN(kinds), n: source.Int64N(few), x: source.Int64N(few), g: api.Gid{Slot: source.IntN(int(6 + seed))}}
			switch {
			case x.kind < byItself:
				r.ask(x)
			case x.kind == doAdd:
				x.x = []int64{1, 2, -1, -r.s.State().Groups[x.n].Count}[source.IntN(4)]
				r.tell(x)
			case x.kind > byItself:
				r.tell(x)
			}
			r.nobodyInVain()
		}
		total += r.woken
	}
	if total < 3000 {
		t.Errorf("%d were woken: too few to tell anything", total)
	}
}
