package timer_test

import (
	"math"
	"slices"
	"testing"

	"rota/api"
	"rota/timer"
)

// end is the last tick; most is how many may run; lastName is the last name that there is.
const (
	end      uint64 = math.MaxUint64
	most            = 1024
	lastName int64  = math.MaxInt64
)

// a to e are goroutines. Some of them have the same slot, or the same generation.
var (
	a = api.Gid{Slot: 0, Gen: 1}
	b = api.Gid{Slot: 1, Gen: 1}
	c = api.Gid{Slot: 1, Gen: 2}
	d = api.Gid{Slot: 2, Gen: 1}
	e = api.Gid{Slot: 2, Gen: 2}
)

// everybody is all of them, and names that nobody has by a slab's rules: this layer knows no such rules.
func everybody() []api.Gid {
	return []api.Gid{a, b, c, d, e, {}, {Slot: -1, Gen: -1}, {Slot: math.MaxInt, Gen: math.MinInt}}
}

// channels is numbers that may stand for a channel: all may.
func channels() []int64 {
	return []int64{0, 1, 7, 1024, 1025, -1, math.MaxInt64, math.MinInt64}
}

// edges is ticks and numbers of ticks at which sums come to their ends.
func edges() []uint64 {
	return []uint64{0, 1, 2, 3, 10, 1<<32 - 1, 1 << 32, 1<<63 - 1, 1 << 63, 1<<63 + 1, end - 10, end - 3, end - 2, end - 1, end}
}

// sleeper, after and every are timers that are due; never is one as it is if it is not.
func sleeper(id int64, g api.Gid, when uint64) api.Timer {
	return api.Timer{Id: id, Kind: api.TimSleep, G: g, When: when}
}
func after(id, ch int64, when uint64) api.Timer {
	return api.Timer{Id: id, Kind: api.TimAfter, Chan: ch, When: when}
}
func every(id, ch int64, when, period uint64) api.Timer {
	return api.Timer{Id: id, Kind: api.TimEvery, Chan: ch, When: when, Period: period}
}
func never(x api.Timer) api.Timer {
	x.When, x.Never = 0, true
	return x
}

// named is what After and Every answer.
type named struct {
	id int64
	e  api.Errno
}

// of is the answer of a call.
func of(id int64, e api.Errno) named { return named{id, e} }

// gives holds a call against the name that it gives; the error is none.
func gives(t *testing.T, what string, x named, want int64) {
	t.Helper()
	if x != (named{want, api.OK}) {
		t.Errorf("%s: %d, %d, not %d", what, x.id, x.e, want)
	}
}

// refused holds a call against an error.
func refused(t *testing.T, what string, x named, want api.Errno) {
	t.Helper()
	if x != (named{0, want}) {
		t.Errorf("%s: %d, %d, not %d", what, x.id, x.e, want)
	}
}

// sleeps holds a Sleep against its error, or OK.
func sleeps(t *testing.T, what string, e, want api.Errno) {
	t.Helper()
	if e != want {
		t.Errorf("%s: %d, not %d", what, e, want)
	}
}

// stops holds a Stop against its answer.
func stops(t *testing.T, what string, yes, want bool) {
	t.Helper()
	if yes != want {
		t.Errorf("%s: %v", what, yes)
	}
}

// due asks for all that are due.
func due(t *testing.T, x *timer.Timers, now uint64, want ...api.Timer) {
	t.Helper()
	if l := x.Due(now); !slices.Equal(l, want) {
		t.Errorf("Due(%d): %+v, not %+v", now, l, want)
	}
}

// next holds Next against a tick.
func next(t *testing.T, x *timer.Timers, want uint64) {
	t.Helper()
	if when, some := x.Next(); when != want || !some {
		t.Errorf("Next: %d, %v, not %d", when, some, want)
	}
}

// nothingNext asks that nothing is ever due.
func nothingNext(t *testing.T, x *timer.Timers) {
	t.Helper()
	if when, some := x.Next(); when != 0 || some {
		t.Errorf("Next: %d, %v, not 0, false", when, some)
	}
}

// stands asks by all that tell something: these run, in this order, and last is the last name that was given.
func stands(t *testing.T, what string, x *timer.Timers, last int64, l ...api.Timer) {
	t.Helper()
	if n, all := x.State(); n != last || !slices.Equal(all, l) {
		t.Errorf("%s: State: %d, %+v, not %d, %+v", what, n, all, last, l)
	}
	when, some := x.Next()
	if wantWhen, wantSome := nextOf(l); when != wantWhen || some != wantSome {
		t.Errorf("%s: Next: %d, %v, not %d, %v", what, when, some, wantWhen, wantSome)
	}
	those := sleepersOf(l)
	for _, g := range slices.Concat(everybody(), those) {
		if yes := x.Sleeps(g); yes != slices.Contains(those, g) {
			t.Errorf("%s: Sleeps(%v): %v", what, g, yes)
		}
	}
}

// nextOf is the least When of those that are ever due.
func nextOf(l []api.Timer) (uint64, bool) {
	when, some := uint64(0), false
	for _, x := range l {
		if !x.Never && (!some || x.When < when) {
			when, some = x.When, true
		}
	}
	return when, some
}

// sleepersOf is those that sleep.
func sleepersOf(l []api.Timer) (out []api.Gid) {
	for _, x := range l {
		if x.Kind == api.TimSleep {
			out = append(out, x.G)
		}
	}
	return out
}

// load is a Timers of a state.
func load(t *testing.T, last int64, l ...api.Timer) *timer.Timers {
	t.Helper()
	x, e := timer.Load(last, l)
	if e != api.OK || x == nil {
		t.Fatalf("Load(%d, %+v): %v, %d", last, l, x, e)
	}
	return x
}

// many is so many Afters of the names 1, 2, 3 .., due at 1, 2, 3 ..
func many(n int) []api.Timer {
	var l []api.Timer
	for at := range int64(n) {
		l = append(l, after(at+1, 7, uint64(at+1)))
	}
	return l
}

// permutations calls do with all orders of 0, 1, .., n - 1.
func permutations(n int, do func(order []int)) {
	order := make([]int, 0, n)
	var put func()
	put = func() {
		if len(order) == n {
			do(order)
			return
		}
		for x := range n {
			if !slices.Contains(order, x) {
				order = append(order, x)
				put()
				order = order[:len(order)-1]
			}
		}
	}
	put()
}
