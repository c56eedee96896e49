package timer_test

import (
	"math"
	"testing"

	"rota/api"
	"rota/timer"
)

// fullLoads is Timers in which nothing more can run: too many do, no name is left, or both; a and b sleep, b for ever.
func fullLoads(t *testing.T) map[string]*timer.Timers {
	t.Helper()
	lot := func(n int, last int64) *timer.Timers {
		l := append([]api.Timer{sleeper(1000001, a, 0)}, many(n-2)...)
		return load(t, last, append(l, never(sleeper(1000002, b, 0)))...)
	}
	return map[string]*timer.Timers{
		"too many run":    lot(most, 1000002),
		"no name is left": lot(2, lastName),
		"both":            lot(most, lastName),
	}
}

// TestRefusedSleep: T1: ErrSleeps comes ahead of ErrFull; each alone too; nothing changes, whatever now and ticks are.
func TestRefusedSleep(t *testing.T) {
	for _, now := range edges() {
		for _, ticks := range edges() {
			x := load(t, 9, sleeper(1, a, 5), never(sleeper(2, b, 0)))
			sleeps(t, "Sleep of one that sleeps", x.Sleep(a, now, ticks), api.ErrSleeps)
			sleeps(t, "Sleep of one that sleeps for ever", x.Sleep(b, now, ticks), api.ErrSleeps)
			stands(t, "ErrSleeps", x, 9, sleeper(1, a, 5), never(sleeper(2, b, 0)))
		}
	}
	for what, x := range fullLoads(t) {
		last, l := x.State()
		sleeps(t, what+": Sleep", x.Sleep(c, 0, 1), api.ErrFull)
		sleeps(t, what+": Sleep", x.Sleep(c, end, 1), api.ErrFull)
		sleeps(t, what+": Sleep of one that sleeps", x.Sleep(a, 0, 1), api.ErrSleeps)
		sleeps(t, what+": Sleep of one that sleeps for ever", x.Sleep(b, 0, 1), api.ErrSleeps)
		stands(t, what, x, last, l...)
	}
}

// TestRefusedTimers: T1: ErrArg of no period comes ahead of ErrFull; each alone too; nothing changes, whatever the channel and the ticks are.
func TestRefusedTimers(t *testing.T) {
	for _, now := range edges() {
		for _, ch := range channels() {
			x := load(t, 20, mixed()...)
			refused(t, "Every of no period", of(x.Every(ch, now, 0)), api.ErrArg)
			stands(t, "ErrArg", x, 20, mixed()...)
		}
	}
	for what, x := range fullLoads(t) {
		last, l := x.State()
		for _, ticks := range edges() {
			for _, ch := range channels() {
				refused(t, what+": After", of(x.After(ch, 1, ticks)), api.ErrFull)
				if ticks > 0 {
					refused(t, what+": Every", of(x.Every(ch, 1, ticks)), api.ErrFull)
				}
				refused(t, what+": Every of no period", of(x.Every(ch, 1, 0)), api.ErrArg)
			}
		}
		stands(t, what, x, last, l...)
	}
}

// TestRoomIsMade: T1: what was refused by ErrFull goes when one runs no more, but not where no name is left.
func TestRoomIsMade(t *testing.T) {
	all := fullLoads(t)
	for what, room := range map[string]func(x *timer.Timers){
		"a sleeper was told": func(x *timer.Timers) { x.Due(0) },
		"one was stopped":    func(x *timer.Timers) { x.Stop(1) },
	} {
		x := fullLoads(t)["too many run"]
		room(x)
		gives(t, what, of(x.After(1, 0, 1)), 1000003)
		refused(t, what+", and then another one runs", of(x.After(1, 0, 1)), api.ErrFull)
	}
	for _, what := range []string{"no name is left", "both"} {
		x := all[what]
		x.Due(end)
		x.Stop(1)
		refused(t, what, of(x.After(1, 0, 1)), api.ErrFull)
		refused(t, what, of(x.Every(1, 0, 1)), api.ErrFull)
		sleeps(t, what, x.Sleep(a, 0, 1), api.ErrFull)
	}
}

// TestOthersTimers: of a Timers that New and Load did not give, nil or a plain one, Sleep, After and Every are ErrArg, all others nothing, behind one another too.
func TestOthersTimers(t *testing.T) {
	for _, x := range []*timer.Timers{nil, {}, new(timer.Timers)} {
		for range 2 {
			for _, now := range edges() {
				for _, ticks := range edges() {
					for _, g := range everybody() {
						sleeps(t, "Sleep", x.Sleep(g, now, ticks), api.ErrArg)
					}
					for _, ch := range channels() {
						refused(t, "After", of(x.After(ch, now, ticks)), api.ErrArg)
						refused(t, "Every", of(x.Every(ch, now, ticks)), api.ErrArg)
					}
				}
				due(t, x, now)
			}
			for _, id := range []int64{0, 1, 2, -1, math.MaxInt64, math.MinInt64} {
				stops(t, "Stop", x.Stop(id), false)
			}
			stands(t, "nothing", x, 0)
		}
	}
}
