package sema_test

import (
	"testing"

	"rota/api"
	"rota/sema"
)

// busyState is one in which all of them have something, by the numbers 0, 1 and 255; a to e wait, each in another kind of place.
func busyState() api.SyncState {
	return state(
		mutex(0, locked(toLock(a))), mutex(1, read(2, toLock(api.Gid{Slot: 50}), toRead(b))), mutex(last, locked()),
		group(0, 3, c), group(1, 1), cond(0, with(0, d)), cond(last, with(1, api.Gid{Slot: 51})), semaphore(0, 0, e), semaphore(last, 4),
	)
}

// byGoroutine is all calls that take a goroutine, by their names.
func byGoroutine() map[string]func(x *sema.Sync, n int64, g api.Gid) result {
	return map[string]func(x *sema.Sync, n int64, g api.Gid) result{
		"Lock":           func(x *sema.Sync, n int64, g api.Gid) result { return of(x.Lock(n, g)) },
		"RLock":          func(x *sema.Sync, n int64, g api.Gid) result { return of(x.RLock(n, g)) },
		"Wait":           func(x *sema.Sync, n int64, g api.Gid) result { return of(x.Wait(n, g)) },
		"Acquire":        func(x *sema.Sync, n int64, g api.Gid) result { return of(x.Acquire(n, g)) },
		"Await(n, 0)":    func(x *sema.Sync, n int64, g api.Gid) result { return of(x.Await(n, 0, g)) },
		"Await(0, n)":    func(x *sema.Sync, n int64, g api.Gid) result { return of(x.Await(0, n, g)) },
		"Await(n, 2)":    func(x *sema.Sync, n int64, g api.Gid) result { return of(x.Await(n, 2, g)) },
		"Await(n, n)":    func(x *sema.Sync, n int64, g api.Gid) result { return of(x.Await(n, n, g)) },
		"Await(n, 256)":  func(x *sema.Sync, n int64, g api.Gid) result { return of(x.Await(n, number, g)) },
		"Await(256, n)":  func(x *sema.Sync, n int64, g api.Gid) result { return of(x.Await(number, n, g)) },
		"Await(n, last)": func(x *sema.Sync, n int64, g api.Gid) result { return of(x.Await(n, last, g)) },
	}
}

// byNumber is all that take none.
func byNumber() map[string]func(x *sema.Sync, n int64) api.Held {
	return map[string]func(x *sema.Sync, n int64) api.Held{
		"Unlock":    (*sema.Sync).Unlock,
		"RUnlock":   (*sema.Sync).RUnlock,
		"Add(n, 0)": func(x *sema.Sync, n int64) api.Held { return x.Add(n, 0) },
		"Add(n, 1)": func(x *sema.Sync, n int64) api.Held { return x.Add(n, 1) },
		// The number is looked at first: what is added would be refused too.
		"Add(n, -9)": func(x *sema.Sync, n int64) api.Held { return x.Add(n, -9) },
		"Signal":     (*sema.Sync).Signal,
		"Broadcast":  (*sema.Sync).Broadcast,
		"Release":    (*sema.Sync).Release,
	}
}

// TestNoSuchNumber: K1 to K4: TrapSema, and nothing is done.
func TestNoSuchNumber(t *testing.T) {
	for _, s := range []api.SyncState{state(), busyState()} {
		x := load(t, s)
		for _, n := range noNumbers() {
			for name, call := range byGoroutine() {
				goes(t, name, call(x, n, api.Gid{Slot: 40}), trapped(api.TrapSema))
			}
			for name, call := range byNumber() {
				does(t, name, call(x, n), trapped(api.TrapSema))
			}
		}
		tells(t, "no such number", x, s)
	}
}

// TestAwaitOfNoNumber: K3: TrapSema, if n is none, if m is none, and if both are, whatever the mutex is: it is not let go.
func TestAwaitOfNoNumber(t *testing.T) {
	s := busyState()
	x, g := load(t, s), api.Gid{Slot: 40}
	for _, none := range noNumbers() {
		for _, n := range []int64{0, 1, 2, last} {
			goes(t, "Await, n is none", of(x.Await(none, n, g)), trapped(api.TrapSema))
			goes(t, "Await, m is none", of(x.Await(n, none, g)), trapped(api.TrapSema))
		}
		for _, other := range noNumbers() {
			goes(t, "Await, both are none", of(x.Await(none, other, g)), trapped(api.TrapSema))
		}
	}
	tells(t, "Await", x, s)
}

// TestOneThatWaits: K1 to K4: ErrWaits ahead of all else, wherever it waits, whatever it asks for, by a number that there is and one that there is not; nothing is done.
func TestOneThatWaits(t *testing.T) {
	s := busyState()
	x := load(t, s)
	for _, g := range []api.Gid{a, b, c, d, e} {
		for name, call := range byGoroutine() {
			for _, n := range append(noNumbers(), 0, 1, 2, last) {
				refused(t, name, call(x, n, g), api.ErrWaits)
			}
		}
	}
	tells(t, "ErrWaits", x, s)
	// Those that have the slot, or the generation, of one that waits are others.
	goes(t, "Lock", of(x.Lock(7, api.Gid{Slot: 0, Gen: 2})), passed())
	goes(t, "Acquire", of(x.Acquire(last, api.Gid{Slot: 3, Gen: 1})), passed())
	goes(t, "Wait", of(x.Wait(1, api.Gid{Slot: 1, Gen: 0})), blocked())
}

// TestOneThatWaitedMaySoAgain: K1 to K5: it is refused from its call on that waits till it is woken; one that is signalled and does not get its mutex is refused still.
func TestOneThatWaitedMaySoAgain(t *testing.T) {
	x := sema.New()
	all := func(what string, want bool) {
		t.Helper()
		if x.Waits(a) != want {
			t.Errorf("%s: Waits: %v", what, !want)
		}
		if want {
			for name, call := range byGoroutine() {
				refused(t, what+": "+name, call(x, 0, a), api.ErrWaits)
			}
		}
	}
	all("at first", false)
	x.Lock(0, b)
	goes(t, "Lock", of(x.Lock(0, a)), blocked())
	all("to lock", true)
	does(t, "Unlock", x.Unlock(0), wakes(a))
	all("to lock, woken", false)
	goes(t, "RLock", of(x.RLock(0, a)), blocked())
	all("to read", true)
	does(t, "Unlock", x.Unlock(0), wakes(a))
	all("to read, woken", false)
	x.RUnlock(0)
	x.Add(0, 1)
	goes(t, "Wait", of(x.Wait(0, a)), blocked())
	all("for a wait group", true)
	does(t, "Add", x.Add(0, -1), wakes(a))
	all("for a wait group, woken", false)
	goes(t, "Acquire", of(x.Acquire(0, a)), blocked())
	all("for a semaphore", true)
	does(t, "Release", x.Release(0), wakes(a))
	all("for a semaphore, woken", false)
	x.Lock(0, a)
	goes(t, "Await", of(x.Await(0, 0, a)), blocked())
	all("for a condition", true)
	x.Lock(0, b)
	does(t, "Signal", x.Signal(0), passed())
	all("for a condition, signalled", true)
	does(t, "Unlock", x.Unlock(0), wakes(a))
	all("for a condition, woken", false)
	stands(t, "at last", x, mutex(0, locked()))
}

// TestTrapsLeaveOneFree: K1 to K4: one whose call traps, or is refused, does not wait.
func TestTrapsLeaveOneFree(t *testing.T) {
	x := sema.New()
	for name, call := range byGoroutine() {
		goes(t, name, call(x, number, a), trapped(api.TrapSema))
		if x.Waits(a) {
			t.Errorf("%s: it waits behind a trap", name)
		}
	}
	goes(t, "Await", of(x.Await(0, 0, a)), trapped(api.TrapUnlock))
	goes(t, "Lock", of(x.Lock(0, a)), passed())
	stands(t, "at last", x, mutex(0, locked()))
}

// TestOthersSync: a Sync that New and Load did not give, nil or a plain one, refuses all with ErrArg, ahead of a number that is none; what can answer no error has no number, tells nothing, and nothing is done.
func TestOthersSync(t *testing.T) {
	for _, x := range []*sema.Sync{nil, {}, new(sema.Sync)} {
		for _, n := range append(noNumbers(), someNumbers()...) {
			for name, call := range byGoroutine() {
				for _, g := range everybody() {
					refused(t, name, call(x, n, g), api.ErrArg)
				}
			}
			for name, call := range byNumber() {
				does(t, name, call(x, n), trapped(api.TrapSema))
			}
		}
		for _, g := range everybody() {
			if x.Waits(g) {
				t.Errorf("Waits(%v)", g)
			}
		}
		if s := x.State(); len(s.Locks)+len(s.Groups)+len(s.Conds)+len(s.Semas) > 0 {
			t.Errorf("State: %s", brief(s))
		}
	}
}

// TestNew: all are free, empty, at 0, each time.
func TestNew(t *testing.T) {
	for range 3 {
		x := sema.New()
		stands(t, "New", x)
		for n := range int64(number) {
			does(t, "Unlock", x.Unlock(n), trapped(api.TrapUnlock))
			does(t, "RUnlock", x.RUnlock(n), trapped(api.TrapUnlock))
			does(t, "Add", x.Add(n, -1), trapped(api.TrapNegative))
			does(t, "Signal", x.Signal(n), passed())
			does(t, "Broadcast", x.Broadcast(n), passed())
			goes(t, "Wait", of(x.Wait(n, a)), passed())
			goes(t, "Lock", of(x.Lock(n, a)), passed())
			does(t, "Release", x.Release(n), passed())
		}
		var want []piece
		for n := range number {
			want = append(want, mutex(n, locked()), semaphore(n, 1))
		}
		stands(t, "all numbers", x, want...)
	}
}
