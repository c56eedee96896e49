package sema_test

import (
	"math"
	"testing"

	"rota/api"
	"rota/sema"
)

// TestAwait: K3: of a mutex in each state, by conditions that nobody and that some wait for.
func TestAwait(t *testing.T) {
	unlock := trapped(api.TrapUnlock)
	for _, at := range []struct {
		what   string
		before api.LockState
		want   api.Held
		after  api.LockState
	}{
		{"free", free(), unlock, free()},
		{"read by one", read(1), unlock, read(1)},
		{"read by some", read(7), unlock, read(7)},
		{"read by as many as may be", read(math.MaxInt), unlock, read(math.MaxInt)},
		{"read, a locker", read(1, toLock(a)), unlock, read(1, toLock(a))},
		{"locked", locked(), blocked(), free()},
		{"locked, a locker", locked(toLock(d)), blocked(d), locked()},
		{"locked, lockers", locked(toLock(d), toLock(a)), blocked(d), locked(toLock(a))},
		{"locked, a reader", locked(toRead(d)), blocked(d), read(1)},
		{"locked, readers ahead of a locker", locked(toRead(d), toRead(a), toLock(b)), blocked(d, a), read(2, toLock(b))},
		{"locked, a locker ahead of a reader", locked(toLock(b), toRead(a)), blocked(b), locked(toRead(a))},
	} {
		for _, n := range someNumbers() {
			for _, m := range someNumbers() {
				there := with(5, api.Gid{Slot: 80})
				after := with(int(m), e)
				x, y := loaded(t, mutex(int(m), at.before)), loaded(t, mutex(int(m), at.before), cond(int(n), there))
				goes(t, at.what+": Await", of(x.Await(n, m, e)), at.want)
				goes(t, at.what+": Await behind one", of(y.Await(n, m, e)), at.want)
				if at.want.Trap != api.TrapNone {
					stands(t, at.what+": Await", x, mutex(int(m), at.after))
					stands(t, at.what+": Await behind one", y, mutex(int(m), at.after), cond(int(n), there))
					continue
				}
				stands(t, at.what+": Await", x, mutex(int(m), at.after), cond(int(n), after))
				stands(t, at.what+": Await behind one", y, mutex(int(m), at.after), cond(int(n), there, after))
			}
		}
	}
}

// ringing is a state, and what Signal and Broadcast of the condition 9 make of it.
type ringing struct {
	what   string
	before []piece
	want   api.Held
	after  []piece
}

// parts is a list of them.
func parts(l ...piece) []piece { return l }

// rings carries a call out on the condition 9 of each state; condition 8 has one that waits, for whom it is not.
func rings(t *testing.T, name string, ring func(x *sema.Sync, n int64) api.Held, l []ringing) {
	t.Helper()
	other := cond(8, with(3, api.Gid{Slot: 80}))
	for _, at := range l {
		x := loaded(t, append(at.before, other)...)
		does(t, at.what+": "+name, ring(x, 9), at.want)
		stands(t, at.what+": "+name, x, append(at.after, other)...)
	}
}

// TestSignal: K3: nobody, one and several wait; their mutex is free, locked, read, and others wait for it.
func TestSignal(t *testing.T) {
	rings(t, "Signal", (*sema.Sync).Signal, []ringing{
		{"nobody", nil, passed(), nil},
		{"nobody, mutexes held", parts(mutex(3, locked(toLock(a))), mutex(9, read(1))), passed(), parts(mutex(3, locked(toLock(a))), mutex(9, read(1)))},
		{"one, free", parts(cond(9, with(3, a))), wakes(a), parts(mutex(3, locked()))},
		{"one, the first mutex", parts(cond(9, with(0, a))), wakes(a), parts(mutex(0, locked()))},
		{"one, the last mutex", parts(cond(9, with(last, a))), wakes(a), parts(mutex(last, locked()))},
		{"one, locked", parts(cond(9, with(3, a)), mutex(3, locked())), passed(), parts(mutex(3, locked(toLock(a))))},
		{"one, locked, others wait", parts(cond(9, with(3, a)), mutex(3, locked(toRead(b), toLock(c)))), passed(), parts(mutex(3, locked(toRead(b), toLock(c), toLock(a))))},
		{"one, read", parts(cond(9, with(3, a)), mutex(3, read(2))), passed(), parts(mutex(3, read(2, toLock(a))))},
		{"one, read, others wait", parts(cond(9, with(3, a)), mutex(3, read(1, toLock(c), toRead(b)))), passed(), parts(mutex(3, read(1, toLock(c), toRead(b), toLock(a))))},
		{"one, read by as many as may be", parts(cond(9, with(3, a)), mutex(3, read(math.MaxInt))), passed(), parts(mutex(3, read(math.MaxInt, toLock(a))))},
		{"several, free", parts(cond(9, with(3, c), with(3, a), with(3, b))), wakes(c), parts(cond(9, with(3, a), with(3, b)), mutex(3, locked()))},
		{"several, locked", parts(cond(9, with(3, c), with(3, a)), mutex(3, locked())), passed(), parts(cond(9, with(3, a)), mutex(3, locked(toLock(c))))},
		{"several, read", parts(cond(9, with(3, c), with(3, a)), mutex(3, read(1))), passed(), parts(cond(9, with(3, a)), mutex(3, read(1, toLock(c))))},
		{"several, the second one's free", parts(cond(9, with(3, c), with(4, a)), mutex(3, locked())), passed(), parts(cond(9, with(4, a)), mutex(3, locked(toLock(c))))},
	})
}

// TestBroadcast: K3: likewise.
func TestBroadcast(t *testing.T) {
	rings(t, "Broadcast", (*sema.Sync).Broadcast, []ringing{
		{"nobody", nil, passed(), nil},
		{"nobody, mutexes held", parts(mutex(3, locked(toLock(a))), mutex(9, read(1))), passed(), parts(mutex(3, locked(toLock(a))), mutex(9, read(1)))},
		{"one, free", parts(cond(9, with(3, a))), wakes(a), parts(mutex(3, locked()))},
		{"one, locked", parts(cond(9, with(3, a)), mutex(3, locked())), passed(), parts(mutex(3, locked(toLock(a))))},
		{"one, read", parts(cond(9, with(3, a)), mutex(3, read(2))), passed(), parts(mutex(3, read(2, toLock(a))))},
		{"several, free", parts(cond(9, with(3, c), with(3, a), with(3, b))), wakes(c), parts(mutex(3, locked(toLock(a), toLock(b))))},
		{"several, locked", parts(cond(9, with(3, c), with(3, a)), mutex(3, locked(toRead(d)))), passed(), parts(mutex(3, locked(toRead(d), toLock(c), toLock(a))))},
		{"several, read", parts(cond(9, with(3, c), with(3, a)), mutex(3, read(1, toLock(d)))), passed(), parts(mutex(3, read(1, toLock(d), toLock(c), toLock(a))))},
		{"several, each with a free one", parts(cond(9, with(5, c), with(last, a), with(0, b))), wakes(c, a, b), parts(mutex(5, locked()), mutex(last, locked()), mutex(0, locked()))},
		{"several, of all kinds", parts(cond(9, with(4, d), with(3, c), with(4, a), with(5, b), with(3, e)), mutex(4, locked()), mutex(5, read(1))), wakes(c), parts(mutex(3, locked(toLock(e))), mutex(4, locked(toLock(d), toLock(a))), mutex(5, read(1, toLock(b))))},
	})
}

// TestEachCondition: K3: the conditions are told apart, the first and the last too.
func TestEachCondition(t *testing.T) {
	var all []piece
	for n := range number {
		all = append(all, cond(n, with(number-1-n, api.Gid{Slot: n})))
	}
	for _, n := range someNumbers() {
		want := append(append([]piece(nil), all...), cond(int(n)), mutex(int(last-n), locked()))
		x := loaded(t, all...)
		does(t, "Signal", x.Signal(n), wakes(api.Gid{Slot: int(n)}))
		stands(t, "Signal", x, want...)
		x = loaded(t, all...)
		does(t, "Broadcast", x.Broadcast(n), wakes(api.Gid{Slot: int(n)}))
		stands(t, "Broadcast", x, want...)
	}
}

// TestAwaitAgain: K3: goroutines that wait for a condition by one mutex, again and again: the mutex goes from one to the next.
func TestAwaitAgain(t *testing.T) {
	x := sema.New()
	for _, g := range []api.Gid{a, b, c} {
		goes(t, "Lock", of(x.Lock(1, g)), passed())
		goes(t, "Await", of(x.Await(2, 1, g)), blocked())
	}
	stands(t, "all wait", x, cond(2, with(1, a), with(1, b), with(1, c)))
	does(t, "Broadcast", x.Broadcast(2), wakes(a))
	goes(t, "Await of a, others wait", of(x.Await(2, 1, a)), blocked(b))
	goes(t, "Await of b, another one waits", of(x.Await(2, 1, b)), blocked(c))
	does(t, "Signal while c has it", x.Signal(2), passed())
	stands(t, "a waits for the mutex", x, cond(2, with(1, b)), mutex(1, locked(toLock(a))))
	does(t, "Unlock", x.Unlock(1), wakes(a))
	does(t, "Unlock", x.Unlock(1), passed())
	does(t, "Signal while it is free", x.Signal(2), wakes(b))
	stands(t, "b has it", x, mutex(1, locked()))
}

// TestManyConditions: K3: very many wait for one condition.
func TestManyConditions(t *testing.T) {
	const many = 200000
	var l []api.CondWaiter
	for n := range many {
		l = append(l, with(n%number, api.Gid{Slot: n}))
	}
	x := loaded(t, cond(1, l...))
	h := x.Broadcast(1)
	if len(h.Woken) != number || h.Woken[last].Slot != last {
		t.Errorf("Broadcast: %d are woken", len(h.Woken))
	}
	if s := x.State(); len(s.Locks[last].Queue) < many/number-1 || len(s.Conds[1].Queue) > 0 {
		t.Errorf("behind Broadcast %d wait for the last mutex", len(s.Locks[last].Queue))
	}
}
