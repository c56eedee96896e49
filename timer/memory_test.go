package timer_test

import (
	"slices"
	"sync"
	"testing"

	"rota/api"
	"rota/timer"
)

// odd is a timer that no test has; lists are written over with it.
func odd() api.Timer {
	return api.Timer{Id: -77, Kind: -77, G: api.Gid{Slot: -77, Gen: -77}, Chan: -77, When: 77, Never: true, Period: 77}
}

// over writes over a list, and over the room behind its end.
func over(l []api.Timer) {
	l = l[:cap(l)]
	for i := range l {
		l[i] = odd()
	}
}

// lots is lists that may run, with the last name 5000.
func lots() [][]api.Timer {
	return [][]api.Timer{nil, mixed(), many(1), many(40), many(most - 60)}
}

// busy carries out calls that move all that a Timers keeps.
func busy(x *timer.Timers) {
	for n := range uint64(12) {
		x.Sleep(api.Gid{Slot: 300, Gen: int(n)}, n, 3)
		x.After(1, 0, n)
		x.Every(2, n, n/2)
		x.After(3, end, n)
		x.Due(n)
	}
	last, _ := x.State()
	x.Stop(last)
	x.Stop(last - 3)
	x.Stop(5)
	x.Due(20)
}

// TestListHandedInIsNotKept: R3: nor is it changed, nor what lies behind its end.
func TestListHandedInIsNotKept(t *testing.T) {
	for _, l := range lots() {
		room := append(slices.Clone(l), odd(), odd(), odd())
		was := slices.Clone(room)
		in := room[:len(l)]
		x := load(t, 5000, in...)
		stands(t, "Load", x, 5000, l...)
		busy(x)
		if !slices.Equal(room, was) {
			t.Errorf("what was handed in has changed: %+v, not %+v", room, was)
		}
		last, want := x.State()
		over(room)
		stands(t, "Load, then written over", x, last, want...)
		due(t, x, end, dues(want)...)

		in = slices.Clone(l)
		x = load(t, 5000, in...)
		over(in)
		stands(t, "Load, then written over at once", x, 5000, l...)
		due(t, x, end, dues(l)...)
	}
}

// dues is those of a list that are ever due.
func dues(l []api.Timer) []api.Timer {
	return slices.DeleteFunc(slices.Clone(l), func(x api.Timer) bool { return x.Never })
}

// TestStateToldIsNotKept: R3: a list that State told and that is written over, the room behind its end too, changes neither the Timers nor another list, and a Timers that goes on changes no list.
func TestStateToldIsNotKept(t *testing.T) {
	for _, l := range lots() {
		x := load(t, 5000, l...)
		_, first := x.State()
		_, second := x.State()
		over(first)
		stands(t, "a state, written over", x, 5000, l...)
		if !slices.Equal(second, l) {
			t.Errorf("another state has changed: %+v", second)
		}
		busy(x)
		if !slices.Equal(second, l) {
			t.Errorf("a state has changed with the Timers: %+v", second)
		}
		last, third := x.State()
		want := slices.Clone(third)
		_, fourth := x.State()
		over(fourth)
		stands(t, "a later state, written over", x, last, want...)
		x.Due(end)
		if !slices.Equal(third, want) {
			t.Errorf("a later state has changed with the Timers: %+v", third)
		}
	}
}

// TestDueToldIsNotKept: R3: likewise a list that Due told, tickers that run on too.
func TestDueToldIsNotKept(t *testing.T) {
	for _, l := range lots() {
		for _, now := range []uint64{0, 5, 30, end} {
			x, y := load(t, 5000, l...), load(t, 5000, l...)
			told, other := x.Due(now), y.Due(now)
			was := slices.Clone(told)
			if !slices.Equal(told, other) {
				t.Errorf("Due(%d): %+v and %+v", now, told, other)
			}
			over(told)
			last, want := y.State()
			stands(t, "Due, written over", x, last, want...)
			busy(x)
			busy(y)
			last, want = y.State()
			stands(t, "Due, written over, going on", x, last, want...)
			if !slices.Equal(other, was) {
				t.Errorf("Due(%d) has changed with the Timers: %+v, not %+v", now, other, was)
			}
		}
	}
}

// TestTwoByThemselves: R4: what is done to one Timers is not seen in another one.
func TestTwoByThemselves(t *testing.T) {
	for _, l := range lots() {
		x, y, z := load(t, 5000, l...), load(t, 5000, l...), timer.New()
		busy(x)
		stands(t, "another one of that state", y, 5000, l...)
		stands(t, "another one", z, 0)
		last, want := x.State()
		busy(y)
		busy(z)
		stands(t, "the first one", x, last, want...)
		stands(t, "the second one, by the same calls", y, last, want...)
	}
	x, y := timer.New(), timer.New()
	sleeps(t, "Sleep in one", x.Sleep(a, 0, 1), api.OK)
	sleeps(t, "Sleep in the other", y.Sleep(a, 0, 2), api.OK)
	gives(t, "After in one", of(x.After(1, 0, 3)), 2)
	gives(t, "After in the other", of(y.After(1, 0, 4)), 2)
	due(t, x, 1, sleeper(1, a, 1))
	sleeps(t, "Sleep in the other", y.Sleep(a, 0, 1), api.ErrSleeps)
	stops(t, "Stop in one", x.Stop(2), true)
	stands(t, "one", x, 2)
	stands(t, "the other", y, 2, sleeper(1, a, 2), after(2, 1, 4))
}

// TestAskingChangesNothing: T2, T4: State, Next, Sleeps, and a Stop that is false, however often.
func TestAskingChangesNothing(t *testing.T) {
	for _, l := range lots() {
		x := load(t, 5000, l...)
		for range 4 {
			stands(t, "asked again", x, 5000, l...)
			stops(t, "Stop", x.Stop(4999), false)
		}
		due(t, x, end, dues(l)...)
	}
}

// TestOneAnswer: R4: the same calls have the same answers, asked by several goroutines at once, each with its own Timers.
func TestOneAnswer(t *testing.T) {
	for _, l := range lots() {
		x := load(t, 5000, l...)
		busy(x)
		last, want := x.State()
		var waits sync.WaitGroup
		for range 8 {
			waits.Go(func() {
				for range 10 {
					y, e := timer.Load(5000, l)
					if e != api.OK {
						t.Errorf("Load: %d", e)
						return
					}
					stands(t, "one of several", y, 5000, l...)
					busy(y)
					stands(t, "one of several, behind calls", y, last, want...)
				}
			})
		}
		waits.Wait()
	}
}
