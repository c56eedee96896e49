package sema_test

import (
	"math"
	"testing"

	"rota/api"
	"rota/sema"
)

// among is the parts of a state in which a mutex stands among others that have nothing to do with it.
func among(n int, m api.LockState) []piece {
	g := func(gen int) api.Gid { return api.Gid{Slot: 90, Gen: gen} }
	return []piece{
		mutex((n+1)%number, locked(toLock(g(1)))), mutex((n+number-1)%number, read(2, toLock(g(2)))),
		group(n, 5, g(3)), cond(n, with(n, g(4))), semaphore(n, 0, g(5)), mutex(n, m),
	}
}

// step is a call on a mutex, and what it makes of it.
type step struct {
	what   string
	before api.LockState
	want   api.Held
	after  api.LockState
}

// each carries a call out from each state, on the first and the last mutex and on some between.
func each(t *testing.T, name string, call func(x *sema.Sync, n int64) result, l []step) {
	t.Helper()
	for _, at := range l {
		for _, n := range someNumbers() {
			x := loaded(t, among(int(n), at.before)...)
			goes(t, at.what+": "+name, call(x, n), at.want)
			stands(t, at.what+": "+name, x, among(int(n), at.after)...)
		}
	}
}

// TestLock: K1: a mutex in each state.
func TestLock(t *testing.T) {
	call := func(x *sema.Sync, n int64) result { return of(x.Lock(n, e)) }
	each(t, "Lock", call, []step{
		{"free", free(), passed(), locked()},
		{"locked", locked(), blocked(), locked(toLock(e))},
		{"locked, a locker", locked(toLock(a)), blocked(), locked(toLock(a), toLock(e))},
		{"locked, a reader", locked(toRead(a)), blocked(), locked(toRead(a), toLock(e))},
		{"locked, some", locked(toRead(d), toLock(a), toRead(c), toRead(b)), blocked(), locked(toRead(d), toLock(a), toRead(c), toRead(b), toLock(e))},
		{"read by one", read(1), blocked(), read(1, toLock(e))},
		{"read by some", read(7), blocked(), read(7, toLock(e))},
		{"read by as many as may be", read(math.MaxInt), blocked(), read(math.MaxInt, toLock(e))},
		{"read, a locker", read(1, toLock(a)), blocked(), read(1, toLock(a), toLock(e))},
		{"read, a locker and a reader", read(2, toLock(a), toRead(b)), blocked(), read(2, toLock(a), toRead(b), toLock(e))},
	})
}

// TestRLock: K1: a mutex in each state.
func TestRLock(t *testing.T) {
	call := func(x *sema.Sync, n int64) result { return of(x.RLock(n, e)) }
	each(t, "RLock", call, []step{
		{"free", free(), passed(), read(1)},
		{"locked", locked(), blocked(), locked(toRead(e))},
		{"locked, a locker", locked(toLock(a)), blocked(), locked(toLock(a), toRead(e))},
		{"locked, a reader", locked(toRead(a)), blocked(), locked(toRead(a), toRead(e))},
		{"read by one", read(1), passed(), read(2)},
		{"read by some", read(7), passed(), read(8)},
		{"read by one fewer than may be", read(math.MaxInt - 1), passed(), read(math.MaxInt)},
		{"read by as many as may be", read(math.MaxInt), trapped(api.TrapNegative), read(math.MaxInt)},
		{"read by as many as may be, a locker", read(math.MaxInt, toLock(a)), blocked(), read(math.MaxInt, toLock(a), toRead(e))},
		{"read, a locker", read(1, toLock(a)), blocked(), read(1, toLock(a), toRead(e))},
		{"read, a locker and a reader", read(2, toLock(a), toRead(b)), blocked(), read(2, toLock(a), toRead(b), toRead(e))},
	})
}

// TestUnlock: K1: a mutex in each state.
func TestUnlock(t *testing.T) {
	call := func(x *sema.Sync, n int64) result { return of(x.Unlock(n), api.OK) }
	each(t, "Unlock", call, []step{
		{"free", free(), trapped(api.TrapUnlock), free()},
		{"locked", locked(), passed(), free()},
		{"locked, a locker", locked(toLock(d)), wakes(d), locked()},
		{"locked, a reader", locked(toRead(d)), wakes(d), read(1)},
		{"locked, lockers", locked(toLock(d), toLock(a), toLock(b)), wakes(d), locked(toLock(a), toLock(b))},
		{"locked, readers", locked(toRead(d), toRead(a), toRead(b)), wakes(d, a, b), read(3)},
		{"locked, a locker ahead of readers", locked(toLock(d), toRead(a), toRead(b)), wakes(d), locked(toRead(a), toRead(b))},
		{"locked, readers ahead of a locker", locked(toRead(d), toRead(a), toLock(b), toRead(c)), wakes(d, a), read(2, toLock(b), toRead(c))},
		{"read by one", read(1), trapped(api.TrapUnlock), read(1)},
		{"read by some", read(7), trapped(api.TrapUnlock), read(7)},
		{"read by as many as may be", read(math.MaxInt), trapped(api.TrapUnlock), read(math.MaxInt)},
		{"read, a locker", read(1, toLock(a), toRead(b)), trapped(api.TrapUnlock), read(1, toLock(a), toRead(b))},
	})
}

// TestRUnlock: K1: a mutex in each state.
func TestRUnlock(t *testing.T) {
	call := func(x *sema.Sync, n int64) result { return of(x.RUnlock(n), api.OK) }
	each(t, "RUnlock", call, []step{
		{"free", free(), trapped(api.TrapUnlock), free()},
		{"locked", locked(), trapped(api.TrapUnlock), locked()},
		{"locked, some", locked(toRead(a), toLock(b)), trapped(api.TrapUnlock), locked(toRead(a), toLock(b))},
		{"read by one", read(1), passed(), free()},
		{"read by two", read(2), passed(), read(1)},
		{"read by as many as may be", read(math.MaxInt), passed(), read(math.MaxInt - 1)},
		{"read by as many as may be, a locker", read(math.MaxInt, toLock(a), toRead(b)), passed(), read(math.MaxInt-1, toLock(a), toRead(b))},
		{"read by one, a locker", read(1, toLock(a)), wakes(a), locked()},
		{"read by one, lockers", read(1, toLock(d), toLock(a)), wakes(d), locked(toLock(a))},
		{"read by one, a locker ahead of readers", read(1, toLock(d), toRead(a), toRead(b)), wakes(d), locked(toRead(a), toRead(b))},
		{"read by two, a locker", read(2, toLock(a), toRead(b)), passed(), read(1, toLock(a), toRead(b))},
	})
}

// turn is what a goroutine of the test wants: whether to read.
func turn(order, at int) bool { return order>>at&1 == 1 }

// batches is whom a mutex is handed over to, one batch behind the other: a locker by itself, readers that follow one another together.
func batches(order, n int) [][]api.Gid {
	var l [][]api.Gid
	for at := range n {
		if at > 0 && turn(order, at) && turn(order, at-1) {
			l[len(l)-1] = append(l[len(l)-1], everybody()[at])
			continue
		}
		l = append(l, []api.Gid{everybody()[at]})
	}
	return l
}

// asks lets goroutines ask for a mutex, in an order of readers and lockers: all of them wait.
func asks(t *testing.T, x *sema.Sync, m int64, order, n int) {
	t.Helper()
	for at := range n {
		if turn(order, at) {
			goes(t, "RLock", of(x.RLock(m, everybody()[at])), blocked())
		} else {
			goes(t, "Lock", of(x.Lock(m, everybody()[at])), blocked())
		}
	}
}

// TestOrders: K1, K7: readers and lockers that wait in every order of up to four, for a mutex that is locked, and for one that is read and that somebody waits for to lock.
func TestOrders(t *testing.T) {
	holder := api.Gid{Slot: 60, Gen: 60}
	for n := range 5 {
		for order := range 1 << n {
			x := sema.New()
			goes(t, "Lock", of(x.Lock(last, holder)), passed())
			asks(t, x, last, order, n)
			let(t, x, 1, false, order, n)

			x = loaded(t, mutex(last, read(3)))
			goes(t, "Lock behind readers", of(x.Lock(last, holder)), blocked())
			asks(t, x, last, order, n)
			does(t, "the first that reads", x.RUnlock(last), passed())
			does(t, "the second", x.RUnlock(last), passed())
			does(t, "the third", x.RUnlock(last), wakes(holder))
			let(t, x, 1, false, order, n)
		}
	}
}

// let lets the last mutex go, which so many hold, again and again: each batch of those that wait gets it when the one ahead has let it go; then it is free.
func let(t *testing.T, x *sema.Sync, holders int, reads bool, order, n int) {
	t.Helper()
	at := 0
	for _, batch := range append(batches(order, n), nil) {
		for ; holders > 0; holders-- {
			want := passed()
			if holders == 1 {
				want = wakes(batch...)
			}
			if reads {
				does(t, "RUnlock", x.RUnlock(last), want)
			} else {
				does(t, "Unlock", x.Unlock(last), want)
			}
		}
		for _, g := range batch {
			if x.Waits(g) {
				t.Errorf("%b of %d: %v was woken and waits", order, n, g)
			}
		}
		holders, reads = len(batch), turn(order, at)
		at += len(batch)
	}
	stands(t, "all have let it go", x)
}

// TestReaderBehindLocker: K7: a reader that comes when one waits to lock waits behind it, though others read.
func TestReaderBehindLocker(t *testing.T) {
	x := sema.New()
	goes(t, "RLock a", of(x.RLock(4, a)), passed())
	goes(t, "RLock b", of(x.RLock(4, b)), passed())
	goes(t, "Lock c", of(x.Lock(4, c)), blocked())
	goes(t, "RLock d", of(x.RLock(4, d)), blocked())
	does(t, "RUnlock", x.RUnlock(4), passed())
	goes(t, "RLock e", of(x.RLock(4, e)), blocked())
	does(t, "RUnlock", x.RUnlock(4), wakes(c))
	does(t, "Unlock", x.Unlock(4), wakes(d, e))
	stands(t, "both read", x, mutex(4, read(2)))
}

// TestAnybodyLetsGo: K1: who holds a mutex is not kept: it can be let go by whomever, and one that holds it can ask for it again, and waits.
func TestAnybodyLetsGo(t *testing.T) {
	x := sema.New()
	goes(t, "Lock", of(x.Lock(0, a)), passed())
	goes(t, "Lock by the same", of(x.Lock(0, a)), blocked())
	does(t, "Unlock by whomever", x.Unlock(0), wakes(a))
	does(t, "Unlock", x.Unlock(0), passed())
	goes(t, "RLock", of(x.RLock(0, a)), passed())
	goes(t, "RLock by the same", of(x.RLock(0, a)), passed())
	goes(t, "Lock by the same", of(x.Lock(0, a)), blocked())
	does(t, "RUnlock", x.RUnlock(0), passed())
	does(t, "RUnlock", x.RUnlock(0), wakes(a))
	stands(t, "it has it to lock", x, mutex(0, locked()))
}

// TestManyWait: K1: a mutex that very many wait for is handed over to all that read, and to those that lock one by one.
func TestManyWait(t *testing.T) {
	const many = 200000
	x := sema.New()
	goes(t, "Lock", of(x.Lock(0, api.Gid{})), passed())
	for n := range many {
		x.RLock(0, api.Gid{Slot: n, Gen: 1})
	}
	h := x.Unlock(0)
	if len(h.Woken) != many || h.Woken[0].Slot != 0 || h.Woken[many-1].Slot != many-1 {
		t.Errorf("Unlock: %d are woken", len(h.Woken))
	}
	for n := range many {
		x.Lock(0, api.Gid{Slot: n, Gen: 1})
	}
	for range many - 1 {
		does(t, "RUnlock", x.RUnlock(0), passed())
	}
	does(t, "the last RUnlock", x.RUnlock(0), wakes(api.Gid{Slot: 0, Gen: 1}))
	for n := range many - 1 {
		does(t, "Unlock", x.Unlock(0), wakes(api.Gid{Slot: n + 1, Gen: 1}))
	}
	does(t, "the last Unlock", x.Unlock(0), passed())
	stands(t, "nobody", x)
}
