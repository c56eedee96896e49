package timer_test

import (
	"testing"

	"rota/api"
	"rota/timer"
)

// TestExample1: a sleeper, a timer and a ticker in one order.
func TestExample1(t *testing.T) {
	x := timer.New()
	sleeps(t, "Sleep", x.Sleep(a, 10, 5), api.OK)
	gives(t, "After", of(x.After(7, 10, 3)), 2)
	gives(t, "Every", of(x.Every(8, 10, 2)), 3)
	next(t, x, 12)
	due(t, x, 11)
	due(t, x, 12, every(3, 8, 12, 2))
	due(t, x, 15, after(2, 7, 13), every(3, 8, 14, 2), sleeper(1, a, 15))
	stands(t, "then", x, 3, every(3, 8, 16, 2))
}

// TestExample2: a ticker whose time has passed three times is told once.
func TestExample2(t *testing.T) {
	x := timer.New()
	gives(t, "Every", of(x.Every(8, 0, 3)), 1)
	due(t, x, 10, every(1, 8, 3, 3))
	next(t, x, 12)
	stands(t, "then", x, 1, every(1, 8, 12, 3))
}

// TestExample3: beyond the last tick, and at once.
func TestExample3(t *testing.T) {
	x := timer.New()
	sleeps(t, "Sleep", x.Sleep(a, end-1, 5), api.OK)
	nothingNext(t, x)
	if !x.Sleeps(a) {
		t.Error("Sleeps: false")
	}
	sleeps(t, "Sleep of one that sleeps", x.Sleep(a, 0, 1), api.ErrSleeps)
	gives(t, "After", of(x.After(1, 0, 0)), 2)
	due(t, x, 0, after(2, 1, 0))
	stands(t, "then", x, 2, never(sleeper(1, a, 0)))
}

// TestExample4: a ticker is stopped once, a sleeper is not.
func TestExample4(t *testing.T) {
	x := timer.New()
	sleeps(t, "Sleep", x.Sleep(a, 10, 5), api.OK)
	gives(t, "After", of(x.After(7, 10, 3)), 2)
	gives(t, "Every", of(x.Every(8, 10, 2)), 3)
	stops(t, "Stop(3)", x.Stop(3), true)
	stops(t, "Stop(3) again", x.Stop(3), false)
	stops(t, "Stop(1)", x.Stop(1), false)
	stands(t, "then", x, 3, after(2, 7, 13), sleeper(1, a, 15))
}
