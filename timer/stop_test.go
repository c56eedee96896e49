package timer_test

import (
	"math"
	"slices"
	"testing"

	"rota/api"
	"rota/timer"
)

// mixed is some of each kind, several of one When, and some that are never due; the last name is 20.
func mixed() []api.Timer {
	return []api.Timer{
		after(4, 7, 0), sleeper(9, a, 5), every(2, 8, 5, 3), after(11, 7, 5), every(1, 8, 5, end), sleeper(20, c, 8),
		after(3, -1, end), sleeper(6, b, end),
		never(every(5, 8, 0, 2)), never(sleeper(13, d, 0)), never(after(12, 9, 0)), never(every(7, 0, 0, 1)),
	}
}

// without is all but the one at a place.
func without(l []api.Timer, at int) []api.Timer { return slices.Delete(slices.Clone(l), at, at+1) }

// TestStop: T2: a timer or a ticker, wherever it stands, runs no more, and all others stay where they are; a sleeper is not stopped.
func TestStop(t *testing.T) {
	for at, one := range mixed() {
		x := load(t, 20, mixed()...)
		is := one.Kind != api.TimSleep
		left := mixed()
		if is {
			left = without(left, at)
		}
		stops(t, "Stop", x.Stop(one.Id), is)
		stands(t, "Stop", x, 20, left...)
		stops(t, "Stop again", x.Stop(one.Id), false)
		stands(t, "Stop again", x, 20, left...)
	}
}

// TestStopOfAll: T2: all that can be stopped, in several orders; the sleepers are left.
func TestStopOfAll(t *testing.T) {
	for turn := range mixed() {
		x, left := load(t, 20, mixed()...), mixed()
		l := slices.Concat(mixed()[turn:], mixed()[:turn])
		for _, one := range l {
			stops(t, "Stop", x.Stop(one.Id), one.Kind != api.TimSleep)
			left = slices.DeleteFunc(left, func(y api.Timer) bool { return y.Id == one.Id && y.Kind != api.TimSleep })
			stands(t, "Stop", x, 20, left...)
		}
		stands(t, "Stop of all", x, 20, sleeper(9, a, 5), sleeper(20, c, 8), sleeper(6, b, end), never(sleeper(13, d, 0)))
	}
}

// TestStopOfNobody: T2: false of names that were not given, were stopped, or were told; nothing changes.
func TestStopOfNobody(t *testing.T) {
	x := load(t, 20, mixed()...)
	for _, id := range []int64{0, -1, 8, 10, 14, 19, 21, 1 << 32, -4, math.MaxInt64, math.MinInt64} {
		stops(t, "Stop of nobody", x.Stop(id), false)
	}
	stands(t, "Stop of nobody", x, 20, mixed()...)
	x = timer.New()
	gives(t, "After", of(x.After(1, 0, 3)), 1)
	gives(t, "Every", of(x.Every(1, 0, 3)), 2)
	sleeps(t, "Sleep", x.Sleep(a, 0, 3), api.OK)
	due(t, x, 3, after(1, 1, 3), every(2, 1, 3, 3), sleeper(3, a, 3))
	stops(t, "Stop of an After that was told", x.Stop(1), false)
	stops(t, "Stop of a sleeper that was told", x.Stop(3), false)
	stops(t, "Stop of an Every that was told", x.Stop(2), true)
	stops(t, "Stop of it again", x.Stop(2), false)
	stands(t, "then", x, 3)
}

// TestStoppedIsNotTold: T2: what was stopped is not due any more, the first and the last in order too; a ticker that was told, stopped, is not armed anew.
func TestStoppedIsNotTold(t *testing.T) {
	for n := range 3 {
		x, want := timer.New(), []api.Timer{}
		for at := range 3 {
			gives(t, "After", of(x.After(5, 0, uint64(10*at))), int64(at+1))
			if at != n {
				want = append(want, after(int64(at+1), 5, uint64(10*at)))
			}
		}
		stops(t, "Stop", x.Stop(int64(n+1)), true)
		due(t, x, end, want...)
	}
	x := timer.New()
	x.Every(1, 0, 4)
	due(t, x, 4, every(1, 1, 4, 4))
	stops(t, "Stop", x.Stop(1), true)
	due(t, x, end)
	nothingNext(t, x)
	x = timer.New()
	x.Every(1, 0, end)
	due(t, x, end, every(1, 1, end, end))
	stands(t, "never due again", x, 1, never(every(1, 1, 0, end)))
	stops(t, "Stop of one that is never due again", x.Stop(1), true)
	stands(t, "then", x, 1)
}

// TestSleeps: T2: from the Sleep on till it is told, and not of those that were refused; a goroutine can sleep again and again.
func TestSleeps(t *testing.T) {
	x := timer.New()
	for n := range uint64(4) {
		for _, g := range everybody() {
			if x.Sleeps(g) {
				t.Errorf("Sleeps(%v) ahead of its sleep", g)
			}
		}
		sleeps(t, "Sleep", x.Sleep(b, n, 1), api.OK)
		stands(t, "Sleep", x, int64(n+1), sleeper(int64(n+1), b, n+1))
		sleeps(t, "Sleep of one that sleeps", x.Sleep(b, n, 0), api.ErrSleeps)
		due(t, x, n)
		if !x.Sleeps(b) {
			t.Error("it does not sleep any more, and is not due")
		}
		due(t, x, n+1, sleeper(int64(n+1), b, n+1))
		stands(t, "told", x, int64(n+1))
	}
}

// TestAnotherOneEnds: T2: a timer that is told or stopped wakes nobody who sleeps, though no other field of theirs differs but the name.
func TestAnotherOneEnds(t *testing.T) {
	x := timer.New()
	sleeps(t, "Sleep", x.Sleep(api.Gid{}, 0, 9), api.OK)
	gives(t, "After", of(x.After(0, 0, 5)), 2)
	gives(t, "After", of(x.After(0, 0, 6)), 3)
	due(t, x, 5, after(2, 0, 5))
	stops(t, "Stop", x.Stop(3), true)
	if !x.Sleeps(api.Gid{}) {
		t.Error("a timer's end has woken one")
	}
	sleeps(t, "Sleep of one that sleeps", x.Sleep(api.Gid{}, 0, 1), api.ErrSleeps)
}

// TestNext: T2: the least When of those that are ever due, 0 and the last tick too, behind each change.
func TestNext(t *testing.T) {
	x := timer.New()
	nothingNext(t, x)
	x.After(1, end, 1)
	nothingNext(t, x)
	x.Every(1, end, end)
	nothingNext(t, x)
	x.After(1, end, 0)
	next(t, x, end)
	x.After(1, 40, 2)
	next(t, x, 42)
	x.Every(1, 40, 3)
	next(t, x, 42)
	x.Sleep(a, 0, 41)
	next(t, x, 41)
	x.After(1, 0, 0)
	next(t, x, 0)
	stops(t, "Stop", x.Stop(7), true)
	next(t, x, 41)
	due(t, x, 41, sleeper(6, a, 41))
	next(t, x, 42)
	stops(t, "Stop", x.Stop(4), true)
	next(t, x, 43)
	due(t, x, 50, every(5, 1, 43, 3))
	next(t, x, 52)
	stops(t, "Stop", x.Stop(5), true)
	next(t, x, end)
	due(t, x, end, after(3, 1, end))
	nothingNext(t, x)
	stands(t, "then", x, 7, never(after(1, 1, 0)), never(every(2, 1, 0, end)))
}
