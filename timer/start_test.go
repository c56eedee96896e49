package timer_test

import (
	"math/big"
	"testing"

	"rota/api"
	"rota/timer"
)

// dueAt is a timer with the When that now + ticks is, in numbers without a bound.
func dueAt(x api.Timer, now, ticks uint64) api.Timer {
	sum := new(big.Int).Add(new(big.Int).SetUint64(now), new(big.Int).SetUint64(ticks))
	if !sum.IsUint64() {
		return never(x)
	}
	x.When = sum.Uint64()
	return x
}

// TestNew: T1: none runs, no name was given, each time.
func TestNew(t *testing.T) {
	for range 3 {
		x := timer.New()
		stands(t, "New", x, 0)
		due(t, x, end)
		stops(t, "Stop", x.Stop(1), false)
		sleeps(t, "Sleep", x.Sleep(a, 0, 1), api.OK)
		gives(t, "After", of(x.After(1, 0, 1)), 2)
	}
}

// TestSums: T1: each is due at now + ticks, never if that is beyond the last tick.
func TestSums(t *testing.T) {
	for _, now := range edges() {
		for _, ticks := range edges() {
			x := timer.New()
			sleeps(t, "Sleep", x.Sleep(a, now, ticks), api.OK)
			stands(t, "Sleep", x, 1, dueAt(sleeper(1, a, 0), now, ticks))
			x = timer.New()
			gives(t, "After", of(x.After(7, now, ticks)), 1)
			stands(t, "After", x, 1, dueAt(after(1, 7, 0), now, ticks))
			if ticks == 0 {
				continue
			}
			x = timer.New()
			gives(t, "Every", of(x.Every(8, now, ticks)), 1)
			stands(t, "Every", x, 1, dueAt(every(1, 8, 0, ticks), now, ticks))
		}
	}
}

// TestSumsAtTheEnd: T1: just up to the last tick, and just past it.
func TestSumsAtTheEnd(t *testing.T) {
	for _, at := range []struct {
		now, ticks uint64
		is         bool
	}{
		{end, 0, true}, {end, 1, false}, {end - 1, 1, true}, {end - 1, 2, false}, {0, end, true}, {1, end, false},
		{1, end - 1, true}, {2, end - 1, false}, {1 << 63, 1<<63 - 1, true}, {1 << 63, 1 << 63, false}, {end, end, false},
	} {
		want := sleeper(1, b, end)
		if !at.is {
			want = never(want)
		}
		x := timer.New()
		sleeps(t, "Sleep", x.Sleep(b, at.now, at.ticks), api.OK)
		stands(t, "Sleep", x, 1, want)
		due(t, x, end-1)
		if at.is {
			due(t, x, end, want)
			stands(t, "behind the last tick", x, 1)
		} else {
			due(t, x, end)
			stands(t, "behind the last tick", x, 1, want)
		}
	}
}

// TestAtOnce: T1, T3: what is for 0 ticks is due at once, whatever now is, and not ahead of it.
func TestAtOnce(t *testing.T) {
	for _, now := range edges() {
		x := timer.New()
		gives(t, "After", of(x.After(3, now, 0)), 1)
		sleeps(t, "Sleep", x.Sleep(c, now, 0), api.OK)
		next(t, x, now)
		if now > 0 {
			due(t, x, now-1)
		}
		due(t, x, now, after(1, 3, now), sleeper(2, c, now))
		stands(t, "then", x, 2)
	}
}

// TestAnyChannel: T1: any channel's number may stand there.
func TestAnyChannel(t *testing.T) {
	for _, ch := range channels() {
		x := timer.New()
		gives(t, "After", of(x.After(ch, 1, 2)), 1)
		gives(t, "Every", of(x.Every(ch, 1, 3)), 2)
		stands(t, "any channel", x, 2, after(1, ch, 3), every(2, ch, 4, 3))
		due(t, x, 4, after(1, ch, 3), every(2, ch, 4, 3))
	}
}

// TestOneChannel: T1: several may send on one channel.
func TestOneChannel(t *testing.T) {
	x := timer.New()
	for n := range int64(5) {
		gives(t, "After", of(x.After(9, 0, 1)), 2*n+1)
		gives(t, "Every", of(x.Every(9, 0, 1)), 2*n+2)
	}
	if l := x.Due(1); len(l) != 10 {
		t.Errorf("Due(1): %+v", l)
	}
}

// TestAnybodySleeps: T1: any goroutine may sleep, and those of one slot or generation are others.
func TestAnybodySleeps(t *testing.T) {
	x := timer.New()
	var want []api.Timer
	for n, g := range everybody() {
		sleeps(t, "Sleep", x.Sleep(g, 5, 5), api.OK)
		want = append(want, sleeper(int64(n+1), g, 10))
		stands(t, "Sleep", x, int64(n+1), want...)
	}
	for _, g := range everybody() {
		sleeps(t, "Sleep again", x.Sleep(g, 0, 0), api.ErrSleeps)
	}
	stands(t, "all of them", x, int64(len(want)), want...)
	due(t, x, 10, want...)
	stands(t, "none of them", x, int64(len(want)))
}

// TestNames: T1: names rise by one, whatever asks for them, and none is given again, whether it was stopped or told.
func TestNames(t *testing.T) {
	x, name := timer.New(), int64(0)
	for range 10 {
		gives(t, "After", of(x.After(1, 0, 1)), name+1)
		gives(t, "Every", of(x.Every(1, 0, 2)), name+2)
		sleeps(t, "Sleep", x.Sleep(a, 0, 3), api.OK)
		gives(t, "After", of(x.After(1, 0, 9)), name+4)
		stops(t, "Stop", x.Stop(name+4), true)
		due(t, x, 3, after(name+1, 1, 1), every(name+2, 1, 2, 2), sleeper(name+3, a, 3))
		stops(t, "Stop", x.Stop(name+2), true)
		name += 4
		stands(t, "none runs", x, name)
	}
}

// TestRefusalsGiveNoName: T1: what is refused changes nothing, and takes no name.
func TestRefusalsGiveNoName(t *testing.T) {
	x := timer.New()
	sleeps(t, "Sleep", x.Sleep(a, 0, 9), api.OK)
	sleeps(t, "Sleep of one that sleeps", x.Sleep(a, 0, 1), api.ErrSleeps)
	refused(t, "Every of no period", of(x.Every(1, 0, 0)), api.ErrArg)
	stands(t, "refused", x, 1, sleeper(1, a, 9))
	gives(t, "After", of(x.After(1, 0, 1)), 2)
}

// TestFull: T1: 1024 may run, of whatever kind; one more is ErrFull, till one runs no more.
func TestFull(t *testing.T) {
	x := timer.New()
	for n := range int64(most) {
		switch n % 3 {
		case 0:
			sleeps(t, "Sleep", x.Sleep(api.Gid{Slot: 100, Gen: int(n)}, 0, 50), api.OK)
		case 1:
			gives(t, "After", of(x.After(1, 0, 70)), n+1)
		default:
			gives(t, "Every", of(x.Every(1, end, 5)), n+1)
		}
	}
	full := func(what string) {
		t.Helper()
		last, l := x.State()
		if len(l) != most {
			t.Fatalf("%s: %d run", what, len(l))
		}
		sleeps(t, what+": Sleep", x.Sleep(b, 0, 1), api.ErrFull)
		refused(t, what+": After", of(x.After(1, 0, 1)), api.ErrFull)
		refused(t, what+": Every", of(x.Every(1, 0, 1)), api.ErrFull)
		stands(t, what, x, last, l...)
	}
	full("1024")
	stops(t, "Stop of one that is due", x.Stop(2), true)
	sleeps(t, "Sleep", x.Sleep(a, 0, 90), api.OK)
	full("one was stopped, another one sleeps")
	stops(t, "Stop of one that is never due", x.Stop(3), true)
	gives(t, "Every", of(x.Every(2, 0, 60)), most+2)
	full("one was stopped, another one runs")
	if n := len(x.Due(50)); n != 342 {
		t.Errorf("Due(50): %d", n)
	}
	for range 342 {
		x.After(1, 0, 200)
	}
	full("all sleepers were told")
	// A ticker that is told runs on, so it makes no room.
	due(t, x, 60, every(most+2, 2, 60, 60))
	full("a ticker was told")
}

// TestJustBelowFull: T1: of 1023 one more can run, by each call, and then none.
func TestJustBelowFull(t *testing.T) {
	for _, start := range starts() {
		l := many(most - 1)
		x := load(t, 5000, l...)
		gives(t, start.what, start.call(x, a), 5001)
		if _, now := x.State(); len(now) != most {
			t.Errorf("%s: %d run", start.what, len(now))
		}
		for _, other := range starts() {
			refused(t, start.what+", then "+other.what, other.call(x, b), api.ErrFull)
		}
		x = load(t, 5000, many(most)...)
		refused(t, start.what, start.call(x, a), api.ErrFull)
		stands(t, start.what, x, 5000, many(most)...)
	}
}

// TestLastNames: T1: 2^63 - 1 is the last name; behind it all is ErrFull, though none runs.
func TestLastNames(t *testing.T) {
	for _, start := range starts() {
		x := load(t, lastName-1)
		gives(t, start.what, start.call(x, a), lastName)
		last, l := x.State()
		if last != lastName || len(l) != 1 || l[0].Id != lastName {
			t.Errorf("%s: State: %d, %+v", start.what, last, l)
		}
		for _, other := range starts() {
			refused(t, start.what+", then "+other.what, other.call(x, b), api.ErrFull)
		}
		stands(t, start.what, x, lastName, l...)
		x = load(t, lastName)
		for range 2 {
			refused(t, start.what, start.call(x, a), api.ErrFull)
			stands(t, start.what, x, lastName)
		}
	}
}

// start is a call that lets something run; a Sleep's name is told as After's and Every's are.
type start struct {
	what string
	call func(x *timer.Timers, g api.Gid) named
}

func starts() []start {
	return []start{
		{"Sleep", func(x *timer.Timers, g api.Gid) named {
			if e := x.Sleep(g, 3, 4); e != api.OK {
				return named{0, e}
			}
			last, _ := x.State()
			return named{last, api.OK}
		}},
		{"After", func(x *timer.Timers, g api.Gid) named { return of(x.After(7, 3, 4)) }},
		{"Every", func(x *timer.Timers, g api.Gid) named { return of(x.Every(7, 3, 4)) }},
	}
}
