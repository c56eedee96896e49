package sema_test

import (
	"testing"

	"rota/api"
	"rota/sema"
)

// TestExampleMutex: the chapter's first example.
func TestExampleMutex(t *testing.T) {
	x := sema.New()
	goes(t, "Lock a", of(x.Lock(0, a)), passed())
	goes(t, "RLock b", of(x.RLock(0, b)), blocked())
	goes(t, "RLock c", of(x.RLock(0, c)), blocked())
	goes(t, "Lock d", of(x.Lock(0, d)), blocked())
	goes(t, "RLock e", of(x.RLock(0, e)), blocked())
	stands(t, "all wait", x, mutex(0, locked(toRead(b), toRead(c), toLock(d), toRead(e))))
	does(t, "Unlock", x.Unlock(0), wakes(b, c))
	stands(t, "two read", x, mutex(0, read(2, toLock(d), toRead(e))))
	does(t, "RUnlock", x.RUnlock(0), passed())
	does(t, "RUnlock of the last", x.RUnlock(0), wakes(d))
	stands(t, "locked again", x, mutex(0, locked(toRead(e))))
	does(t, "Unlock again", x.Unlock(0), wakes(e))
	does(t, "Unlock of what is read", x.Unlock(0), trapped(api.TrapUnlock))
	stands(t, "one reads", x, mutex(0, read(1)))
}

// TestExampleGroup: the chapter's second example.
func TestExampleGroup(t *testing.T) {
	x := sema.New()
	does(t, "Add 2", x.Add(3, 2), passed())
	goes(t, "Wait", of(x.Wait(3, a)), blocked())
	does(t, "Add -1", x.Add(3, -1), passed())
	stands(t, "one is left", x, group(3, 1, a))
	does(t, "Add -1 again", x.Add(3, -1), wakes(a))
	does(t, "Add -1 below 0", x.Add(3, -1), trapped(api.TrapNegative))
	goes(t, "Wait at 0", of(x.Wait(3, a)), passed())
	stands(t, "all is done", x)
}

// TestExampleCondition: the chapter's third example.
func TestExampleCondition(t *testing.T) {
	x := sema.New()
	goes(t, "Lock a", of(x.Lock(0, a)), passed())
	goes(t, "Await", of(x.Await(1, 0, a)), blocked())
	stands(t, "the mutex is free", x, cond(1, with(0, a)))
	goes(t, "Lock b", of(x.Lock(0, b)), passed())
	does(t, "Signal", x.Signal(1), passed())
	stands(t, "a waits for the mutex", x, mutex(0, locked(toLock(a))))
	does(t, "Unlock", x.Unlock(0), wakes(a))
	stands(t, "a has it", x, mutex(0, locked()))
	does(t, "Signal of nobody", x.Signal(1), passed())
	stands(t, "nothing was done", x, mutex(0, locked()))
}

// TestExampleSemaphore: the chapter's fourth example.
func TestExampleSemaphore(t *testing.T) {
	x := sema.New()
	goes(t, "Acquire", of(x.Acquire(9, a)), blocked())
	refused(t, "Acquire again", of(x.Acquire(9, a)), api.ErrWaits)
	stands(t, "a waits", x, semaphore(9, 0, a))
	does(t, "Release", x.Release(9), wakes(a))
	stands(t, "a has it", x)
	goes(t, "Lock(256)", of(x.Lock(256, a)), trapped(api.TrapSema))
	stands(t, "nothing was done", x)
}
