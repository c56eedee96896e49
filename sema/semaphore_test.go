package sema_test

import (
	"math"
	"testing"

	"rota/api"
	"rota/sema"
)

// TestAcquire: K4: a count of each kind; those that wait.
func TestAcquire(t *testing.T) {
	for _, n := range someNumbers() {
		at := int(n)
		x := loaded(t, semaphore(at, 0), group(at, 3, a), semaphore((at+1)%number, 7))
		goes(t, "Acquire of 0", of(x.Acquire(n, d)), blocked())
		goes(t, "Acquire behind one", of(x.Acquire(n, b)), blocked())
		goes(t, "Acquire behind two", of(x.Acquire(n, c)), blocked())
		stands(t, "all wait", x, semaphore(at, 0, d, b, c), group(at, 3, a), semaphore((at+1)%number, 7))
		for _, count := range []int64{1, 2, 9, math.MaxInt64} {
			x := loaded(t, semaphore(at, count))
			goes(t, "Acquire", of(x.Acquire(n, a)), passed())
			stands(t, "Acquire", x, semaphore(at, count-1))
		}
	}
}

// TestRelease: K4: somebody waits, nobody does, and the greatest count.
func TestRelease(t *testing.T) {
	for _, n := range someNumbers() {
		at := int(n)
		for _, count := range []int64{0, 1, 2, math.MaxInt64 - 1} {
			x := loaded(t, semaphore(at, count), group(at, 3, a))
			does(t, "Release", x.Release(n), passed())
			stands(t, "Release", x, semaphore(at, count+1), group(at, 3, a))
		}
		x := loaded(t, semaphore(at, math.MaxInt64))
		does(t, "Release of the greatest", x.Release(n), trapped(api.TrapNegative))
		stands(t, "Release of the greatest", x, semaphore(at, math.MaxInt64))
		goes(t, "Acquire", of(x.Acquire(n, a)), passed())
		does(t, "Release", x.Release(n), passed())
		stands(t, "Release behind Acquire", x, semaphore(at, math.MaxInt64))

		x = loaded(t, semaphore(at, 0, d, a, b), semaphore((at+1)%number, 0, c))
		does(t, "Release", x.Release(n), wakes(d))
		stands(t, "the first", x, semaphore(at, 0, a, b), semaphore((at+1)%number, 0, c))
		does(t, "Release", x.Release(n), wakes(a))
		does(t, "Release", x.Release(n), wakes(b))
		does(t, "Release", x.Release(n), passed())
		stands(t, "nobody waits", x, semaphore(at, 1), semaphore((at+1)%number, 0, c))
	}
}

// TestHandedOver: K4: what is released goes to the first that waits, and not to one that comes meanwhile.
func TestHandedOver(t *testing.T) {
	x := sema.New()
	goes(t, "Acquire a", of(x.Acquire(0, a)), blocked())
	goes(t, "Acquire b", of(x.Acquire(0, b)), blocked())
	does(t, "Release", x.Release(0), wakes(a))
	goes(t, "Acquire a again", of(x.Acquire(0, a)), blocked())
	does(t, "Release", x.Release(0), wakes(b))
	does(t, "Release", x.Release(0), wakes(a))
	does(t, "Release", x.Release(0), passed())
	goes(t, "Acquire b again", of(x.Acquire(0, b)), passed())
	goes(t, "Acquire b at 0", of(x.Acquire(0, b)), blocked())
	stands(t, "b waits", x, semaphore(0, 0, b))
}
