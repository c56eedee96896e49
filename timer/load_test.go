package timer_test

import (
	"math"
	"slices"
	"testing"

	"rota/api"
	"rota/timer"
)

// wrong asks Load for ErrTimers.
func wrong(t *testing.T, what string, last int64, l ...api.Timer) {
	t.Helper()
	was := slices.Clone(l)
	if x, e := timer.Load(last, l); x != nil || e != api.ErrTimers {
		t.Errorf("%s: Load(%d, %+v): %v, %d, not %d", what, last, l, x, e, api.ErrTimers)
	}
	if !slices.Equal(l, was) {
		t.Errorf("%s: the list that was refused has changed: %+v, not %+v", what, l, was)
	}
}

// TestLoad: T4: states that may be are told again.
func TestLoad(t *testing.T) {
	for _, at := range []struct {
		what string
		last int64
		l    []api.Timer
	}{
		{"nothing", 0, nil},
		{"an empty list", 0, []api.Timer{}},
		{"none runs any more", 7, nil},
		{"the last name", lastName, nil},
		{"the first name", 1, []api.Timer{after(1, 7, 3)}},
		{"all names", 3, []api.Timer{after(3, 7, 3), after(2, 7, 3), after(1, 7, 3)}},
		{"the last name runs", lastName, []api.Timer{after(lastName, 7, 3)}},
		{"a sleeper", 1, []api.Timer{sleeper(1, a, 3)}},
		{"a sleeper of the zero name", 1, []api.Timer{sleeper(1, api.Gid{}, 3)}},
		{"a ticker", 1, []api.Timer{every(1, 7, 3, 1)}},
		{"the greatest period", 1, []api.Timer{every(1, 7, 3, end)}},
		{"a ticker that is due ahead of its period", 1, []api.Timer{every(1, 7, 0, 9)}},
		{"no channel", 2, []api.Timer{after(1, 0, 3), every(2, 0, 3, 1)}},
		{"odd channels", 2, []api.Timer{after(1, math.MinInt64, 3), every(2, -1, 3, 1)}},
		{"at 0", 3, []api.Timer{after(1, 7, 0), sleeper(2, a, 0), every(3, 7, 0, 1)}},
		{"at the last tick", 3, []api.Timer{after(1, 7, end), sleeper(2, a, end), every(3, 7, end, 1)}},
		{"never", 3, []api.Timer{never(after(1, 7, 0)), never(sleeper(2, a, 0)), never(every(3, 7, 0, 1))}},
		{"never behind the last tick", 2, []api.Timer{after(2, 7, end), never(after(1, 7, 0))}},
		{"never behind 0", 2, []api.Timer{after(2, 7, 0), never(after(1, 7, 0))}},
		{"one When in another order than that of the names", 3, []api.Timer{after(3, 7, 4), after(1, 7, 4), after(2, 7, 4)}},
		{"goroutines of one slot, of one generation", 4, []api.Timer{sleeper(1, b, 1), sleeper(2, c, 1), sleeper(3, d, 1), sleeper(4, e, 1)}},
		{"much", 20, mixed()},
		{"1023", most, many(most - 1)},
		{"1024", most, many(most)},
	} {
		stands(t, at.what, load(t, at.last, at.l...), at.last, at.l...)
	}
}

// TestLoadOfWrongTimers: T4: ErrTimers, by each thing that may not be of a timer, by itself, and ahead of, between and behind others.
func TestLoadOfWrongTimers(t *testing.T) {
	for _, at := range []struct {
		what string
		x    api.Timer
	}{
		{"the name 0", after(0, 7, 5)},
		{"a name below 0", after(-1, 7, 5)},
		{"the least name", sleeper(math.MinInt64, d, 5)},
		{"a name that was not given", after(101, 7, 5)},
		{"the greatest name", every(math.MaxInt64, 7, 5, 1)},
		{"no kind", api.Timer{Id: 50, Chan: 7, When: 5}},
		{"no kind, all else 0", api.Timer{Id: 50, When: 5}},
		{"a kind below", api.Timer{Id: 50, Kind: -1, When: 5}},
		{"a kind above", api.Timer{Id: 50, Kind: 4, When: 5}},
		{"a kind above, with a period", api.Timer{Id: 50, Kind: 4, When: 5, Period: 1}},
		{"the greatest kind", api.Timer{Id: 50, Kind: math.MaxInt, When: 5}},
		{"the least kind", api.Timer{Id: 50, Kind: math.MinInt, When: 5}},
		{"a sleeper with a channel", api.Timer{Id: 50, Kind: api.TimSleep, G: d, Chan: 7, When: 5}},
		{"a sleeper with a channel below 0", api.Timer{Id: 50, Kind: api.TimSleep, G: d, Chan: -1, When: 5}},
		{"a sleeper with a period", api.Timer{Id: 50, Kind: api.TimSleep, G: d, When: 5, Period: 1}},
		{"a sleeper with the greatest period", api.Timer{Id: 50, Kind: api.TimSleep, G: d, When: 5, Period: end}},
		{"an After with a goroutine", api.Timer{Id: 50, Kind: api.TimAfter, G: d, Chan: 7, When: 5}},
		{"an After with a slot", api.Timer{Id: 50, Kind: api.TimAfter, G: api.Gid{Slot: 1}, Chan: 7, When: 5}},
		{"an After with a generation", api.Timer{Id: 50, Kind: api.TimAfter, G: api.Gid{Gen: 1}, Chan: 7, When: 5}},
		{"an After with a period", api.Timer{Id: 50, Kind: api.TimAfter, Chan: 7, When: 5, Period: 1}},
		{"an Every with a goroutine", api.Timer{Id: 50, Kind: api.TimEvery, G: d, Chan: 7, When: 5, Period: 1}},
		{"an Every with a slot", api.Timer{Id: 50, Kind: api.TimEvery, G: api.Gid{Slot: -1}, Chan: 7, When: 5, Period: 1}},
		{"an Every with a generation", api.Timer{Id: 50, Kind: api.TimEvery, G: api.Gid{Gen: -1}, Chan: 7, When: 5, Period: 1}},
		{"an Every without a period", api.Timer{Id: 50, Kind: api.TimEvery, Chan: 7, When: 5}},
	} {
		wrong(t, at.what, 100, at.x)
		ahead, behind := []api.Timer{sleeper(1, a, 1), after(2, 7, 5)}, []api.Timer{every(3, 7, 5, 2), never(sleeper(4, b, 0))}
		wrong(t, at.what+", behind others", 100, append(slices.Clone(ahead), at.x)...)
		wrong(t, at.what+", ahead of others", 100, append([]api.Timer{at.x}, behind...)...)
		wrong(t, at.what+", between others", 100, slices.Concat(ahead, []api.Timer{at.x}, behind)...)
		wrong(t, at.what+", never due", 100, slices.Concat(ahead, behind, []api.Timer{never(at.x)})...)
	}
}

// TestLoadOfNeverWithWhen: T4: one that is never due has the When 0.
func TestLoadOfNeverWithWhen(t *testing.T) {
	for _, when := range edges()[1:] {
		for _, x := range []api.Timer{after(1, 7, when), sleeper(1, a, when), every(1, 7, when, 2)} {
			x.Never = true
			wrong(t, "never, with a When", 9, x)
			wrong(t, "never, with a When, behind others", 9, after(2, 7, 0), after(3, 7, when), x)
			wrong(t, "never, with a When, ahead of others", 9, after(2, 7, 0), x, never(after(3, 7, 0)))
		}
	}
}

// TestLoadOfLastBelow: T4: the last name is not below 0, though nothing runs.
func TestLoadOfLastBelow(t *testing.T) {
	for _, last := range []int64{-1, -2, -1024, math.MinInt64, math.MinInt64 + 1} {
		wrong(t, "the last name below 0", last)
		wrong(t, "the last name below 0", last, after(1, 7, 3))
		wrong(t, "the last name below 0", last, after(last, 7, 3))
	}
	wrong(t, "no name was given", 0, after(1, 7, 3))
	wrong(t, "no name was given", 0, after(0, 7, 3))
	wrong(t, "one more than was given", 3, after(4, 7, 3))
	wrong(t, "one more than was given, behind others", 3, after(3, 7, 3), after(4, 7, 3))
}

// TestLoadOfTooMany: T4: at most 1024 run, whatever they are.
func TestLoadOfTooMany(t *testing.T) {
	for _, n := range []int{most + 1, most + 2, 2 * most, 1 << 16} {
		wrong(t, "too many", int64(n), many(n)...)
		l := many(n)
		for at := range l {
			l[at] = never(l[at])
		}
		wrong(t, "too many that are never due", lastName, l...)
	}
}

// TestLoadOfOneTwice: T4: no name stands twice, and no goroutine sleeps twice, wherever they stand; the name of a sleeper is no other one's either.
func TestLoadOfOneTwice(t *testing.T) {
	kinds := []func(id int64, g api.Gid, when uint64) api.Timer{
		sleeper,
		func(id int64, g api.Gid, when uint64) api.Timer { return after(id, 7, when) },
		func(id int64, g api.Gid, when uint64) api.Timer { return every(id, 7, when, 3) },
	}
	between := []api.Timer{after(8, 7, 5), sleeper(9, e, 5)}
	for _, first := range kinds {
		for _, second := range kinds {
			wrong(t, "a name twice", 9, first(3, a, 5), second(3, b, 5))
			wrong(t, "a name twice, other Whens", 9, first(3, a, 4), second(3, b, 6))
			wrong(t, "a name twice, once never", 9, first(3, a, 4), never(second(3, b, 0)))
			wrong(t, "a name twice, both never", 9, never(first(3, a, 0)), never(second(3, b, 0)))
			wrong(t, "a name twice, others between", 9, slices.Concat([]api.Timer{first(3, a, 4)}, between, []api.Timer{second(3, b, 6)})...)
			load(t, 9, first(3, a, 5), second(4, b, 5))
		}
	}
	for _, g := range everybody() {
		wrong(t, "one sleeps twice", 9, sleeper(1, g, 5), sleeper(2, g, 5))
		wrong(t, "one sleeps twice, other Whens", 9, sleeper(1, g, 5), sleeper(2, g, 6))
		wrong(t, "one sleeps twice, once never", 9, sleeper(1, g, 5), never(sleeper(2, g, 5)))
		wrong(t, "one sleeps twice, both never", 9, never(sleeper(1, g, 5)), never(sleeper(2, g, 5)))
		wrong(t, "one sleeps twice, others between", 9, slices.Concat([]api.Timer{sleeper(1, g, 5)}, []api.Timer{after(8, 7, 5), every(7, 7, 5, 1)}, []api.Timer{sleeper(2, g, 6)})...)
	}
}

// TestLoadOutOfOrder: T4: Whens do not fall, and none that is ever due stands behind one that never is; a When of 0 too.
func TestLoadOutOfOrder(t *testing.T) {
	wrong(t, "falls by one", 9, after(1, 7, 4), after(2, 7, 3))
	wrong(t, "falls to 0", 9, after(1, 7, 1), after(2, 7, 0))
	wrong(t, "falls from the last tick", 9, after(1, 7, end), after(2, 7, end-1))
	wrong(t, "falls at the end", 9, after(1, 7, 1), after(2, 7, 3), after(3, 7, 3), after(4, 7, 2))
	wrong(t, "falls at the beginning", 9, after(1, 7, 2), after(2, 7, 1), after(3, 7, 3), after(4, 7, 4))
	wrong(t, "falls in the middle", 9, after(1, 7, 1), sleeper(2, a, 3), every(3, 7, 2, 4), after(4, 7, 4))
	wrong(t, "falls ahead of never", 9, after(1, 7, 4), after(2, 7, 3), never(after(3, 7, 0)))
	for _, when := range edges() {
		wrong(t, "due behind never", 9, never(after(1, 7, 0)), after(2, 7, when))
		wrong(t, "due between never", 9, never(after(1, 7, 0)), after(2, 7, when), never(after(3, 7, 0)))
		wrong(t, "due on both sides of never", 9, after(1, 7, 0), never(sleeper(2, a, 0)), every(3, 7, when, 1))
	}
}

// TestLoadOfAllOrders: T4: of all orders of some timers Load takes just those in which Whens don't fall and never is last.
func TestLoadOfAllOrders(t *testing.T) {
	all := []api.Timer{after(1, 7, 0), sleeper(2, a, 3), every(3, 7, 3, 2), after(4, 7, end), never(sleeper(5, b, 0)), never(after(6, 7, 0))}
	took := 0
	permutations(len(all), func(order []int) {
		var l []api.Timer
		for _, n := range order {
			l = append(l, all[n])
		}
		if slices.IsSortedFunc(l, func(x, y api.Timer) int { return place(x) - place(y) }) {
			took++
			stands(t, "in order", load(t, 6, l...), 6, l...)
		} else {
			wrong(t, "out of order", 6, l...)
		}
	})
	if took != 4 {
		t.Errorf("Load took %d orders, not 4", took)
	}
}

// place is where one of TestLoadOfAllOrders may stand: those of one place in any order.
func place(x api.Timer) int {
	switch {
	case x.Never:
		return 5
	case x.When == end:
		return 4
	}
	return int(x.When)
}

// TestLoadedGoOn: T4: those that were loaded are armed in the list's order, ahead of all that are armed later; names go on behind last.
func TestLoadedGoOn(t *testing.T) {
	permutations(4, func(order []int) {
		var l []api.Timer
		for _, n := range order {
			l = append(l, []api.Timer{after(1, 7, 9), sleeper(2, a, 9), every(3, 8, 9, 4), after(4, 6, 9)}[n])
		}
		x := load(t, 30, l...)
		gives(t, "After", of(x.After(5, 4, 5)), 31)
		due(t, x, 9, append(slices.Clone(l), after(31, 5, 9))...)
		stands(t, "then", x, 31, every(3, 8, 13, 4))
	})
	x := load(t, 20, mixed()...)
	gives(t, "After", of(x.After(1, end, 1)), 21)
	gives(t, "After", of(x.After(1, end, 0)), 22)
	stands(t, "behind those that were loaded", x, 22, slices.Concat(mixed()[:8], []api.Timer{after(22, 1, end)}, mixed()[8:], []api.Timer{never(after(21, 1, 0))})...)
}
