package sema_test

import (
	"fmt"
	"math"
	"slices"
	"testing"

	"rota/api"
	"rota/sema"
)

// number is how many there are of each kind; last is the last one's number.
const (
	number = 256
	last   = 255
)

// a to e are goroutines. Some of them have the same slot, or the same generation.
var (
	a = api.Gid{Slot: 0, Gen: 1}
	b = api.Gid{Slot: 1, Gen: 1}
	c = api.Gid{Slot: 1, Gen: 2}
	d = api.Gid{Slot: 2, Gen: 1}
	e = api.Gid{Slot: 2, Gen: 2}
)

// everybody is all of them, and names that nobody has by a slab's rules: this layer knows no such rules.
func everybody() []api.Gid {
	return []api.Gid{a, b, c, d, e, {}, {Slot: -1, Gen: -1}, {Slot: math.MaxInt, Gen: math.MinInt}}
}

// someNumbers is numbers that there are, the first and the last among them.
func someNumbers() []int64 { return []int64{0, 1, 9, 128, last - 1, last} }

// noNumbers is numbers that there are not.
func noNumbers() []int64 {
	return []int64{-1, -2, -number, number, number + 1, 2 * number, 1 << 16, 1 << 32, 1<<32 + 1, -1 << 32, math.MaxInt32, math.MaxInt64, math.MinInt64, math.MinInt64 + 1}
}

// toLock and toRead are those that wait for a mutex; with is one that waits for a condition.
func toLock(g api.Gid) api.LockWaiter          { return api.LockWaiter{G: g} }
func toRead(g api.Gid) api.LockWaiter          { return api.LockWaiter{G: g, Read: true} }
func with(mutex int, g api.Gid) api.CondWaiter { return api.CondWaiter{G: g, Mutex: mutex} }

// free, locked and read are mutexes.
func free() api.LockState { return api.LockState{} }
func locked(l ...api.LockWaiter) api.LockState {
	return api.LockState{Locked: true, Queue: l}
}
func read(by int, l ...api.LockWaiter) api.LockState {
	return api.LockState{Readers: by, Queue: l}
}

// piece is a part of a state.
type piece func(*api.SyncState)

// mutex, group, cond and semaphore are those of a number.
func mutex(n int, m api.LockState) piece {
	return func(s *api.SyncState) { s.Locks[n] = m }
}
func group(n int, count int64, l ...api.Gid) piece {
	return func(s *api.SyncState) { s.Groups[n] = api.GroupState{Count: count, Queue: l} }
}
func cond(n int, l ...api.CondWaiter) piece {
	return func(s *api.SyncState) { s.Conds[n] = api.CondState{Queue: l} }
}
func semaphore(n int, count int64, l ...api.Gid) piece {
	return func(s *api.SyncState) { s.Semas[n] = api.GroupState{Count: count, Queue: l} }
}

// state is one of parts; all else is free, empty, at 0.
func state(l ...piece) api.SyncState {
	s := api.SyncState{
		Locks:  make([]api.LockState, number),
		Groups: make([]api.GroupState, number),
		Conds:  make([]api.CondState, number),
		Semas:  make([]api.GroupState, number),
	}
	for _, p := range l {
		p(&s)
	}
	return s
}

// passed, blocked, trapped and wakes are what a call did.
func passed() api.Held                  { return api.Held{} }
func blocked(woken ...api.Gid) api.Held { return api.Held{Waits: true, Woken: woken} }
func trapped(x api.Trap) api.Held       { return api.Held{Trap: x} }
func wakes(woken ...api.Gid) api.Held   { return api.Held{Woken: woken} }

// sameHeld tells whether two calls did the same; nil and the empty list are the same.
func sameHeld(x, y api.Held) bool {
	return x.Waits == y.Waits && x.Trap == y.Trap && slices.Equal(x.Woken, y.Woken)
}

// result is what a call of a goroutine answers.
type result struct {
	h api.Held
	e api.Errno
}

// of is the result of a call.
func of(h api.Held, e api.Errno) result { return result{h, e} }

// goes holds a goroutine's call against what it does; the error is none.
func goes(t *testing.T, what string, x result, want api.Held) {
	t.Helper()
	if !sameHeld(x.h, want) || x.e != api.OK {
		t.Errorf("%s: %+v, %d, not %+v", what, x.h, x.e, want)
	}
}

// refused holds a goroutine's call against an error.
func refused(t *testing.T, what string, x result, want api.Errno) {
	t.Helper()
	if !sameHeld(x.h, api.Held{}) || x.e != want {
		t.Errorf("%s: %+v, %d, not %d", what, x.h, x.e, want)
	}
}

// does holds a call against what it does.
func does(t *testing.T, what string, h, want api.Held) {
	t.Helper()
	if !sameHeld(h, want) {
		t.Errorf("%s: %+v, not %+v", what, h, want)
	}
}

// load is a Sync of a state.
func load(t *testing.T, s api.SyncState) *sema.Sync {
	t.Helper()
	x, e := sema.Load(s)
	if e != api.OK || x == nil {
		t.Fatalf("Load(%s): %v, %d", brief(s), x, e)
	}
	return x
}

// loaded is a Sync of parts.
func loaded(t *testing.T, l ...piece) *sema.Sync {
	t.Helper()
	return load(t, state(l...))
}

// tells asks by all that tell something: a Sync is of that state.
func tells(t *testing.T, what string, x *sema.Sync, want api.SyncState) {
	t.Helper()
	if s := x.State(); !same(s, want) {
		t.Errorf("%s: State: %s, not %s", what, brief(s), brief(want))
	}
	those := standing(want)
	for _, g := range slices.Concat(everybody(), those) {
		if yes := x.Waits(g); yes != slices.Contains(those, g) {
			t.Errorf("%s: Waits(%v): %v", what, g, yes)
		}
	}
}

// stands is tells of parts.
func stands(t *testing.T, what string, x *sema.Sync, l ...piece) {
	t.Helper()
	tells(t, what, x, state(l...))
}

// standing is all that wait in a state.
func standing(s api.SyncState) []api.Gid {
	var l []api.Gid
	for _, m := range s.Locks {
		for _, w := range m.Queue {
			l = append(l, w.G)
		}
	}
	for _, m := range s.Conds {
		for _, w := range m.Queue {
			l = append(l, w.G)
		}
	}
	for _, m := range slices.Concat(s.Groups, s.Semas) {
		l = append(l, m.Queue...)
	}
	return l
}

// same tells whether two states are; nil and the empty list are the same.
func same(x, y api.SyncState) bool {
	return slices.EqualFunc(x.Locks, y.Locks, sameLock) && slices.EqualFunc(x.Groups, y.Groups, sameGroup) &&
		slices.EqualFunc(x.Conds, y.Conds, sameCond) && slices.EqualFunc(x.Semas, y.Semas, sameGroup)
}
func sameLock(x, y api.LockState) bool {
	return x.Locked == y.Locked && x.Readers == y.Readers && slices.Equal(x.Queue, y.Queue)
}
func sameGroup(x, y api.GroupState) bool {
	return x.Count == y.Count && slices.Equal(x.Queue, y.Queue)
}
func sameCond(x, y api.CondState) bool { return slices.Equal(x.Queue, y.Queue) }

// copyOf is a state in memory of its own.
func copyOf(s api.SyncState) api.SyncState {
	var out api.SyncState
	for _, m := range s.Locks {
		m.Queue = append([]api.LockWaiter(nil), m.Queue...)
		out.Locks = append(out.Locks, m)
	}
	for _, m := range s.Groups {
		m.Queue = append([]api.Gid(nil), m.Queue...)
		out.Groups = append(out.Groups, m)
	}
	for _, m := range s.Conds {
		m.Queue = append([]api.CondWaiter(nil), m.Queue...)
		out.Conds = append(out.Conds, m)
	}
	for _, m := range s.Semas {
		m.Queue = append([]api.Gid(nil), m.Queue...)
		out.Semas = append(out.Semas, m)
	}
	return out
}

// brief is a state as text: those of it that are not free, empty, at 0.
func brief(s api.SyncState) string {
	out := fmt.Sprint(len(s.Locks), len(s.Groups), len(s.Conds), len(s.Semas))
	for n, m := range s.Locks {
		if !sameLock(m, free()) {
			out += fmt.Sprintf(" mutex %d %+v", n, m)
		}
	}
	for n, m := range s.Groups {
		if !sameGroup(m, api.GroupState{}) {
			out += fmt.Sprintf(" group %d %+v", n, m)
		}
	}
	for n, m := range s.Conds {
		if !sameCond(m, api.CondState{}) {
			out += fmt.Sprintf(" condition %d %+v", n, m)
		}
	}
	for n, m := range s.Semas {
		if !sameGroup(m, api.GroupState{}) {
			out += fmt.Sprintf(" semaphore %d %+v", n, m)
		}
	}
	return out
}
