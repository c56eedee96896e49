package sema_test

import (
	"math"
	"slices"
	"testing"

	"rota/api"
	"rota/sema"
)

// wrong asks Load for ErrArg.
func wrong(t *testing.T, what string, s api.SyncState) {
	t.Helper()
	was := copyOf(s)
	if x, e := sema.Load(s); x != nil || e != api.ErrArg {
		t.Errorf("%s: Load(%s): %v, %d, not %d", what, brief(s), x, e, api.ErrArg)
	}
	if !same(s, was) {
		t.Errorf("%s: the state that was refused has changed: %s, not %s", what, brief(s), brief(was))
	}
}

// TestLoad: K5: states that may be are told again.
func TestLoad(t *testing.T) {
	for _, n := range []int{0, 1, 128, last} {
		for _, at := range []struct {
			what string
			p    piece
		}{
			{"free", mutex(n, free())},
			{"an empty list", mutex(n, api.LockState{Queue: []api.LockWaiter{}})},
			{"locked", mutex(n, locked())},
			{"locked, a locker", mutex(n, locked(toLock(a)))},
			{"locked, a reader", mutex(n, locked(toRead(a)))},
			{"locked, some", mutex(n, locked(toRead(a), toRead(b), toLock(c), toRead(d), toLock(e)))},
			{"read by one", mutex(n, read(1))},
			{"read by as many as may be", mutex(n, read(math.MaxInt))},
			{"read, a locker", mutex(n, read(1, toLock(a)))},
			{"read, some", mutex(n, read(math.MaxInt, toLock(a), toRead(b), toRead(c), toLock(d)))},
			{"a count", group(n, 1)},
			{"the greatest count", group(n, math.MaxInt64)},
			{"a count, one waits", group(n, 1, a)},
			{"a count, some wait", group(n, math.MaxInt64, c, a, e)},
			{"one awaits", cond(n, with(n, a))},
			{"the first and the last mutex", cond(n, with(0, a), with(last, b), with(0, c))},
			{"the mutex is held", func(s *api.SyncState) { mutex(7, locked(toLock(b)))(s); cond(n, with(7, a))(s) }},
			{"one can be taken", semaphore(n, 1)},
			{"the greatest number can", semaphore(n, math.MaxInt64)},
			{"none can, one waits", semaphore(n, 0, a)},
			{"none can, some wait", semaphore(n, 0, c, a, e)},
			{"odd names", semaphore(n, 0, everybody()...)},
			{"the same slot, the same generation", func(s *api.SyncState) { group(n, 2, a, b)(s); cond(n, with(1, c), with(1, d))(s) }},
		} {
			stands(t, at.what, loaded(t, at.p), at.p)
		}
	}
	stands(t, "nothing", loaded(t))
	tells(t, "much", load(t, busyState()), busyState())
}

// TestLoadOfWrongStates: ErrArg, by each thing that may not be, whichever number it is, by itself and among others.
func TestLoadOfWrongStates(t *testing.T) {
	for _, n := range []int{0, 1, 128, last} {
		for _, at := range []struct {
			what string
			p    piece
		}{
			{"locked and read", mutex(n, api.LockState{Locked: true, Readers: 1})},
			{"locked and read by as many as may be", mutex(n, api.LockState{Locked: true, Readers: math.MaxInt})},
			{"locked and read, one waits", mutex(n, api.LockState{Locked: true, Readers: 1, Queue: []api.LockWaiter{toLock(a)}})},
			{"readers below 0", mutex(n, read(-1))},
			{"the least number of readers", mutex(n, read(math.MinInt))},
			{"locked, readers below 0", mutex(n, api.LockState{Locked: true, Readers: -1})},
			{"readers below 0, a locker", mutex(n, read(-1, toLock(a)))},
			{"free, a locker", mutex(n, read(0, toLock(a)))},
			{"free, a reader", mutex(n, read(0, toRead(a)))},
			{"free, a locker ahead of a reader", mutex(n, read(0, toLock(a), toRead(b)))},
			{"read, a reader", mutex(n, read(1, toRead(a)))},
			{"read, a reader ahead of a locker", mutex(n, read(3, toRead(a), toLock(b)))},
			{"read by as many as may be, a reader", mutex(n, read(math.MaxInt, toRead(a)))},
			{"a group below 0", group(n, -1)},
			{"the least count", group(n, math.MinInt64)},
			{"a group below 0, one waits", group(n, -1, a)},
			{"a group of 0, one waits", group(n, 0, a)},
			{"a group of 0, some wait", group(n, 0, a, b)},
			{"a mutex below 0", cond(n, with(-1, a))},
			{"a mutex one above the last", cond(n, with(number, a))},
			{"the greatest mutex", cond(n, with(math.MaxInt, a))},
			{"the least mutex", cond(n, with(math.MinInt, a))},
			{"a later one's mutex", cond(n, with(0, a), with(last, b), with(number, c))},
			{"an earlier one's mutex", cond(n, with(-1, a), with(last, b))},
			{"a semaphore below 0", semaphore(n, -1)},
			{"the least semaphore", semaphore(n, math.MinInt64)},
			{"a semaphore below 0, one waits", semaphore(n, -1, a)},
			{"a semaphore of 1, one waits", semaphore(n, 1, a)},
			{"the greatest semaphore, one waits", semaphore(n, math.MaxInt64, a)},
		} {
			wrong(t, at.what, state(at.p))
			s := state(mutex(77, locked(toLock(api.Gid{Slot: 60}))), group(77, 4, api.Gid{Slot: 61}), cond(77, with(0, api.Gid{Slot: 62})), semaphore(77, 9))
			at.p(&s)
			wrong(t, at.what+", among others", s)
		}
	}
}

// TestLoadOfOtherNumbers: ErrArg, if there are not 256 of each kind.
func TestLoadOfOtherNumbers(t *testing.T) {
	wrong(t, "nothing", api.SyncState{})
	for _, n := range []int{0, 1, last, number + 1, 2 * number, 1 << 16} {
		s := state()
		s.Locks = make([]api.LockState, n)
		wrong(t, "mutexes", s)
		s = state()
		s.Groups = make([]api.GroupState, n)
		wrong(t, "wait groups", s)
		s = state()
		s.Conds = make([]api.CondState, n)
		wrong(t, "conditions", s)
		s = state()
		s.Semas = make([]api.GroupState, n)
		wrong(t, "semaphores", s)
		s = state()
		s.Locks, s.Groups = make([]api.LockState, n), make([]api.GroupState, n)
		s.Conds, s.Semas = make([]api.CondState, n), make([]api.GroupState, n)
		wrong(t, "all of them", s)
	}
}

// places is all kinds of places in which one can wait, by a number.
func places(n int, g api.Gid) []piece {
	return []piece{
		func(s *api.SyncState) { s.Locks[n] = locked(append(s.Locks[n].Queue, toLock(g))...) },
		func(s *api.SyncState) { s.Locks[n] = locked(append(s.Locks[n].Queue, toRead(g))...) },
		func(s *api.SyncState) { s.Groups[n] = api.GroupState{Count: 2, Queue: append(s.Groups[n].Queue, g)} },
		func(s *api.SyncState) { s.Conds[n].Queue = append(s.Conds[n].Queue, with(3, g)) },
		func(s *api.SyncState) { s.Semas[n].Queue = append(s.Semas[n].Queue, g) },
	}
}

// TestLoadOfOneTwice: ErrArg, if a goroutine waits in two places, of one kind or of two, by one number or by two; two goroutines may.
func TestLoadOfOneTwice(t *testing.T) {
	for i := range places(0, a) {
		for j := range places(0, a) {
			for _, n := range []int{0, 5, last} {
				for _, m := range []int{0, 5, last} {
					for _, g := range everybody() {
						wrong(t, "one twice", state(places(n, g)[i], places(m, g)[j]))
						wrong(t, "one twice, others between", state(places(n, g)[i], places(n, api.Gid{Slot: 9})[j], places(m, g)[j]))
					}
					for _, l := range [][2]api.Gid{{a, b}, {b, c}, {b, d}, {{}, a}} {
						p := []piece{places(n, l[0])[i], places(m, l[1])[j]}
						stands(t, "two", loaded(t, p...), p...)
					}
				}
			}
		}
	}
}

// TestLoadOfAllSmallMutexes: of all mutexes with few readers and few that wait Load takes just those that may be by the document's words.
func TestLoadOfAllSmallMutexes(t *testing.T) {
	queues := [][]api.LockWaiter{nil}
	for _, g := range []api.Gid{a, b, c} {
		for _, l := range queues {
			if len(l) == slices.Index([]api.Gid{a, b, c}, g) {
				queues = append(queues, append(slices.Clone(l), toLock(g)), append(slices.Clone(l), toRead(g)))
			}
		}
	}
	if len(queues) != 15 {
		t.Fatalf("%d queues", len(queues))
	}
	took := 0
	for _, l := range queues {
		for _, by := range []int{-2, -1, 0, 1, 2} {
			for _, is := range []bool{false, true} {
				m := api.LockState{Locked: is, Readers: by, Queue: l}
				if lockMayBe(m) {
					took++
					stands(t, "a small mutex", loaded(t, mutex(200, m)), mutex(200, m))
				} else {
					wrong(t, "a small mutex", state(mutex(200, m)))
				}
			}
		}
	}
	// Locked with any queue; free with none; read with none, or with a locker first.
	if took != 15+1+2*(1+7) {
		t.Errorf("%d mutexes may be", took)
	}
}

// lockMayBe tells whether a mutex may be, by the document's words, one behind the other.
func lockMayBe(m api.LockState) bool {
	if m.Locked && m.Readers != 0 {
		return false
	}
	if m.Readers < 0 {
		return false
	}
	if len(m.Queue) > 0 && !m.Locked && m.Readers == 0 && !m.Queue[0].Read {
		return false
	}
	if len(m.Queue) > 0 && !m.Locked && m.Queue[0].Read {
		return false
	}
	return true
}

// TestLoadGoesOn: K5: a Sync of a state does what the one does that told it.
func TestLoadGoesOn(t *testing.T) {
	x := sema.New()
	x.Lock(0, a)
	x.RLock(0, b)
	x.RLock(1, c)
	x.RLock(1, c)
	x.Lock(1, d)
	x.Add(2, 5)
	x.Wait(2, e)
	x.Lock(3, c)
	x.Await(3, 3, c)
	x.Release(4)
	x.Acquire(5, api.Gid{Slot: 30})
	for _, x := range []*sema.Sync{load(t, x.State()), x} {
		for _, g := range []api.Gid{b, c, d, e, {Slot: 30}} {
			refused(t, "Lock", of(x.Lock(9, g)), api.ErrWaits)
		}
		does(t, "Unlock", x.Unlock(0), wakes(b))
		does(t, "RUnlock", x.RUnlock(1), passed())
		does(t, "RUnlock", x.RUnlock(1), wakes(d))
		does(t, "Add", x.Add(2, -5), wakes(e))
		does(t, "Broadcast", x.Broadcast(3), wakes(c))
		does(t, "Release", x.Release(5), wakes(api.Gid{Slot: 30}))
		goes(t, "Acquire", of(x.Acquire(4, a)), passed())
		goes(t, "Acquire", of(x.Acquire(4, a)), blocked())
		stands(t, "going on", x, mutex(0, read(1)), mutex(1, locked()), mutex(3, locked()), semaphore(4, 0, a))
	}
}
