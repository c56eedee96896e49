package sema_test

import (
	"slices"
	"sync"
	"testing"

	"rota/api"
	"rota/sema"
)

// odd is one that waits nowhere in the tests; lists are written over with it.
func odd() api.Gid { return api.Gid{Slot: -77, Gen: -77} }

// over writes over a list, and over the room behind its end.
func over[T any](l []T, with T) {
	l = l[:cap(l)]
	for i := range l {
		l[i] = with
	}
}

// spoil writes over all of a state.
func spoil(s api.SyncState) {
	for _, m := range s.Locks {
		over(m.Queue, toRead(odd()))
	}
	for _, m := range slices.Concat(s.Groups, s.Semas) {
		over(m.Queue, odd())
	}
	for _, m := range s.Conds {
		over(m.Queue, with(-77, odd()))
	}
	over(s.Locks, api.LockState{Locked: true, Readers: -77})
	over(s.Groups, api.GroupState{Count: -77})
	over(s.Conds, api.CondState{})
	over(s.Semas, api.GroupState{Count: -77})
}

// examples is states with something of all.
func examples() []api.SyncState {
	long := func(from int) (l []api.Gid) {
		for n := range 40 {
			l = append(l, api.Gid{Slot: from, Gen: n})
		}
		return l
	}
	var readers []api.LockWaiter
	var awaiting []api.CondWaiter
	for n, g := range long(100) {
		readers = append(readers, api.LockWaiter{G: g, Read: n%5 != 2})
	}
	for n, g := range long(101) {
		awaiting = append(awaiting, with(n%3, g))
	}
	return []api.SyncState{
		state(),
		busyState(),
		state(mutex(0, locked(readers...)), group(0, 2, long(102)...), cond(0, awaiting...), semaphore(0, 0, long(103)...)),
		state(mutex(1, locked(toRead(a), toRead(b))), mutex(2, locked(toLock(c))), group(1, 2, d), group(2, 1, e), cond(1, with(1, api.Gid{Slot: 7})), cond(2, with(2, api.Gid{Slot: 8}))),
	}
}

// busy carries out calls that move all that a Sync keeps by the numbers 0, 1 and 2.
func busy(x *sema.Sync) {
	for n := range int64(3) {
		for at := range int64(8) {
			g := api.Gid{Slot: 200 + int(n), Gen: int(at)}
			x.Lock(n, g)
			x.RLock(n, api.Gid{Slot: 210 + int(n), Gen: int(at)})
			x.Add(n, 1)
			x.Wait(n, api.Gid{Slot: 220 + int(n), Gen: int(at)})
			x.Acquire(n, api.Gid{Slot: 230 + int(n), Gen: int(at)})
			x.Await(n, n, api.Gid{Slot: 240 + int(n), Gen: int(at)})
		}
		x.Unlock(n)
		x.Signal(n)
		x.Release(n)
		x.RUnlock(n)
		x.Signal(n)
		x.Broadcast(n)
		for range 30 {
			x.Unlock(n)
			x.RUnlock(n)
			x.Release(n)
		}
		x.Add(n, -x.State().Groups[n].Count)
	}
}

// roomy is a state whose lists of one kind lie in one piece of memory each, so that the room behind a list's end is the next one's; and these pieces.
func roomy(s api.SyncState) (out api.SyncState, lockers []api.LockWaiter, awaiting []api.CondWaiter, others []api.Gid) {
	out = copyOf(s)
	for n := range number {
		lockers = append(lockers, s.Locks[n].Queue...)
		awaiting = append(awaiting, s.Conds[n].Queue...)
		others = slices.Concat(others, s.Groups[n].Queue, s.Semas[n].Queue)
	}
	lockers, awaiting, others = append(lockers, toLock(odd())), append(awaiting, with(0, odd())), append(others, odd())
	lock, await, other := lockers, awaiting, others
	for n := range number {
		out.Locks[n].Queue, lock = cut(lock, len(s.Locks[n].Queue))
		out.Conds[n].Queue, await = cut(await, len(s.Conds[n].Queue))
		out.Groups[n].Queue, other = cut(other, len(s.Groups[n].Queue))
		out.Semas[n].Queue, other = cut(other, len(s.Semas[n].Queue))
	}
	// Room behind the ends of the four lists themselves.
	out.Locks = append(out.Locks, locked())[:number]
	out.Groups = append(out.Groups, api.GroupState{Count: -7})[:number]
	out.Conds = append(out.Conds, api.CondState{})[:number]
	out.Semas = append(out.Semas, api.GroupState{Count: -7})[:number]
	return out, lockers, awaiting, others
}

// cut is the first so many, with all room behind them, and the others.
func cut[T any](l []T, n int) ([]T, []T) { return l[:n], l[n:] }

// TestStateHandedInIsNotKept: R3: nor is it changed, nor what lies behind its lists' ends.
func TestStateHandedInIsNotKept(t *testing.T) {
	for _, s := range examples() {
		in, lockers, awaiting, others := roomy(s)
		wasLockers, wasAwaiting, wasOthers := slices.Clone(lockers), slices.Clone(awaiting), slices.Clone(others)
		x := load(t, in)
		busy(x)
		if !same(in, s) || !slices.Equal(lockers, wasLockers) || !slices.Equal(awaiting, wasAwaiting) || !slices.Equal(others, wasOthers) {
			t.Errorf("what was handed in has changed: %s, not %s", brief(in), brief(s))
		}
		if !in.Locks[:number+1][number].Locked || in.Groups[:number+1][number].Count != -7 || in.Semas[:number+1][number].Count != -7 {
			t.Error("what lies behind the lists has changed")
		}
		want := x.State()
		spoil(in)
		tells(t, "Load, then written over", x, want)

		in = copyOf(s)
		x = load(t, in)
		spoil(in)
		tells(t, "Load, then written over at once", x, s)
	}
}

// TestStateToldIsNotKept: R3: a state that is written over changes neither the Sync nor another state, and a Sync that goes on changes no state.
func TestStateToldIsNotKept(t *testing.T) {
	for _, s := range examples() {
		x := load(t, s)
		first, second := x.State(), x.State()
		spoil(first)
		tells(t, "a state, written over", x, s)
		if !same(second, s) {
			t.Errorf("another state has changed: %s", brief(second))
		}
		busy(x)
		if !same(second, s) {
			t.Errorf("a state has changed with the Sync: %s", brief(second))
		}
		// The same goes for queues out of which some have left.
		third, want := x.State(), copyOf(x.State())
		spoil(x.State())
		tells(t, "a later state, written over", x, want)
		busy(x)
		if !same(third, want) {
			t.Errorf("a later state has changed with the Sync: %s", brief(third))
		}
	}
}

// TestListsOfOneState: R3: no two lists of one state share memory, their room behind the end too.
func TestListsOfOneState(t *testing.T) {
	for _, s := range examples() {
		x := load(t, s)
		out := x.State()
		for n := range number {
			over(out.Locks[n].Queue[len(out.Locks[n].Queue):], toRead(odd()))
			over(out.Groups[n].Queue[len(out.Groups[n].Queue):], odd())
			over(out.Conds[n].Queue[len(out.Conds[n].Queue):], with(-77, odd()))
			over(out.Semas[n].Queue[len(out.Semas[n].Queue):], odd())
		}
		over(out.Locks[number:], locked(toRead(odd())))
		over(out.Groups[number:], api.GroupState{Count: -77})
		over(out.Conds[number:], api.CondState{})
		over(out.Semas[number:], api.GroupState{Count: -77})
		if !same(out, s) {
			t.Errorf("lists of one state share memory: %s, not %s", brief(out), brief(s))
		}
		tells(t, "the room behind a state's lists, written over", x, s)
	}
}

// TestWokenIsNotKept: R3: a list of those that were woken is new memory: written over, it changes nothing; and it does not change with the Sync.
func TestWokenIsNotKept(t *testing.T) {
	for _, at := range []struct {
		what string
		call func(x *sema.Sync) api.Held
	}{
		{"Unlock", func(x *sema.Sync) api.Held { return x.Unlock(0) }},
		{"RUnlock", func(x *sema.Sync) api.Held { return x.RUnlock(1) }},
		{"Add", func(x *sema.Sync) api.Held { return x.Add(2, -3) }},
		{"Await", func(x *sema.Sync) api.Held { return of(x.Await(9, 0, odd())).h }},
		{"Signal", func(x *sema.Sync) api.Held { return x.Signal(3) }},
		{"Broadcast", func(x *sema.Sync) api.Held { return x.Broadcast(3) }},
		{"Release", func(x *sema.Sync) api.Held { return x.Release(4) }},
	} {
		g := func(n int) api.Gid { return api.Gid{Slot: 300, Gen: n} }
		s := state(
			mutex(0, locked(toRead(g(1)), toRead(g(2)), toRead(g(3)), toLock(g(4)), toRead(g(5)))), mutex(1, read(1, toLock(g(6)), toRead(g(7)))),
			group(2, 3, g(8), g(9), g(10)), cond(3, with(10, g(11)), with(11, g(12)), with(10, g(13))), semaphore(4, 0, g(14), g(15), g(16)),
		)
		x, y := load(t, s), load(t, s)
		h := at.call(x)
		does(t, at.what, at.call(y), h)
		if len(h.Woken) == 0 {
			t.Fatalf("%s: nobody is woken", at.what)
		}
		was := slices.Clone(h.Woken)
		over(h.Woken, odd())
		tells(t, at.what+", written over", x, y.State())
		// Both go on alike.
		copy(h.Woken, was)
		busyHere(x)
		busyHere(y)
		tells(t, at.what+", going on", x, y.State())
		if !slices.Equal(h.Woken, was) {
			t.Errorf("%s: those that were woken have changed: %v, not %v", at.what, h.Woken, was)
		}
	}
}

// busyHere fills all queues of few numbers, and empties them.
func busyHere(x *sema.Sync) {
	for n := range int64(12) {
		x.Add(n, 1)
		for at := range 9 {
			x.RLock(n, api.Gid{Slot: 400 + int(n), Gen: at})
			x.Lock(n, api.Gid{Slot: 420 + int(n), Gen: at})
			x.Wait(n, api.Gid{Slot: 440 + int(n), Gen: at})
			x.Acquire(n, api.Gid{Slot: 460 + int(n), Gen: at})
		}
		x.Broadcast(n)
		for range 30 {
			x.Unlock(n)
			x.RUnlock(n)
			x.Release(n)
			x.Add(n, -1)
		}
	}
}

// TestTwoByThemselves: R4: what is done to one Sync is not seen in another one.
func TestTwoByThemselves(t *testing.T) {
	for _, s := range examples() {
		x, y, z := load(t, s), load(t, s), sema.New()
		busy(x)
		tells(t, "another one of that state", y, s)
		stands(t, "another one", z)
		want := x.State()
		busy(y)
		busy(z)
		tells(t, "the first one", x, want)
		tells(t, "the second one, by the same calls", y, want)
	}
	x, y := sema.New(), sema.New()
	goes(t, "Lock in one", of(x.Lock(0, a)), passed())
	goes(t, "Lock in the other", of(y.Lock(0, a)), passed())
	goes(t, "Acquire in one", of(x.Acquire(0, a)), blocked())
	goes(t, "Acquire in the other", of(y.Acquire(0, a)), blocked())
	does(t, "Release in one", x.Release(0), wakes(a))
	refused(t, "Lock in the other", of(y.Lock(1, a)), api.ErrWaits)
}

// TestOneAnswer: R4: the same calls have the same answers, asked by several goroutines at once, each with its own Sync.
func TestOneAnswer(t *testing.T) {
	for _, s := range examples() {
		want := load(t, s)
		busy(want)
		after := want.State()
		var waits sync.WaitGroup
		for range 8 {
			waits.Go(func() {
				for range 20 {
					x, e := sema.Load(s)
					if e != api.OK {
						t.Errorf("Load: %d", e)
						return
					}
					tells(t, "one of several", x, s)
					busy(x)
					tells(t, "one of several, behind calls", x, after)
				}
			})
		}
		waits.Wait()
	}
}
