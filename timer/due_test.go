package timer_test

import (
	"math/big"
	"slices"
	"testing"

	"rota/api"
	"rota/timer"
)

// TestDueAtEachTick: T3: of a mixed lot what is told at some ticks, and what is left.
func TestDueAtEachTick(t *testing.T) {
	later, stay := mixed()[6:8], mixed()[8:]
	once, twice := never(every(1, 8, 0, end)), never(every(2, 8, 0, 3))
	for _, at := range []struct {
		now  uint64
		told int // so many of the first
		left []api.Timer
	}{
		{0, 1, mixed()[1:]},
		{4, 1, mixed()[1:]},
		{5, 5, slices.Concat([]api.Timer{sleeper(20, c, 8), every(2, 8, 8, 3)}, later, stay, []api.Timer{once})},
		{7, 5, slices.Concat([]api.Timer{sleeper(20, c, 8), every(2, 8, 8, 3)}, later, stay, []api.Timer{once})},
		{8, 6, slices.Concat([]api.Timer{every(2, 8, 11, 3)}, later, stay, []api.Timer{once})},
		{end - 2, 6, slices.Concat([]api.Timer{every(2, 8, end-1, 3)}, later, stay, []api.Timer{once})},
		// The ticker's times, 5, 8, 11 .., end with 2^64 - 2.
		{end - 1, 6, slices.Concat(later, stay, []api.Timer{twice, once})},
		{end, 8, slices.Concat(stay, []api.Timer{twice, once})},
	} {
		x := load(t, 20, mixed()...)
		due(t, x, at.now, mixed()[:at.told]...)
		stands(t, "Due", x, 20, at.left...)
		due(t, x, at.now)
		stands(t, "Due again", x, 20, at.left...)
	}
}

// TestDueGoesBack: T3: the clock is what calls say: an earlier now behind a later one tells what is due by then, which is nothing but what was armed since.
func TestDueGoesBack(t *testing.T) {
	x := timer.New()
	x.Every(8, 0, 10)
	x.After(7, 0, 50)
	due(t, x, 25, every(1, 8, 10, 10))
	due(t, x, 3)
	gives(t, "After", of(x.After(6, 0, 2)), 3)
	due(t, x, 1)
	due(t, x, 3, after(3, 6, 2))
	stands(t, "then", x, 3, every(1, 8, 30, 10), after(2, 7, 50))
}

// TestOneWhen: T3: those of one When are told as they were armed, in whatever order that is and whatever kinds they are.
func TestOneWhen(t *testing.T) {
	permutations(5, func(order []int) {
		x := timer.New()
		var want []api.Timer
		for at, kind := range order {
			id, now := int64(at+1), uint64(30-at)
			switch kind {
			case 0, 1:
				g := []api.Gid{a, b}[kind]
				sleeps(t, "Sleep", x.Sleep(g, now, 40-now), api.OK)
				want = append(want, sleeper(id, g, 40))
			case 2:
				gives(t, "After", of(x.After(7, now, 40-now)), id)
				want = append(want, after(id, 7, 40))
			case 3, 4:
				gives(t, "Every", of(x.Every(int64(kind), now, 40-now)), id)
				want = append(want, every(id, int64(kind), 40, 40-now))
			}
		}
		stands(t, "one When", x, 5, want...)
		due(t, x, 39)
		due(t, x, 40, want...)
	})
}

// TestArmedInAnyOrder: T3: those of other Whens are told by rising Whens, in whatever order they were armed, and never ones stay.
func TestArmedInAnyOrder(t *testing.T) {
	whens := []uint64{3, 3, 8, end, end, end}
	permutations(len(whens), func(order []int) {
		x := timer.New()
		told := make([]api.Timer, 0, len(whens))
		var stay []api.Timer
		for at, n := range order {
			one := after(int64(at+1), int64(n), whens[n])
			if n == 5 { // beyond the last tick
				gives(t, "After", of(x.After(int64(n), end, 1)), one.Id)
				stay = append(stay, never(one))
				continue
			}
			gives(t, "After", of(x.After(int64(n), 0, whens[n])), one.Id)
			told = append(told, one)
		}
		slices.SortStableFunc(told, func(x, y api.Timer) int {
			return new(big.Int).SetUint64(x.When).Cmp(new(big.Int).SetUint64(y.When))
		})
		stands(t, "any order", x, 6, slices.Concat(told, stay)...)
		due(t, x, end, told...)
		stands(t, "then", x, 6, stay...)
	})
}

// TestArmedAnew: T3: a ticker that was told stands behind all that have its new When by then, and ahead of those that get it later.
func TestArmedAnew(t *testing.T) {
	x := timer.New()
	gives(t, "Every", of(x.Every(8, 0, 5)), 1)
	gives(t, "After", of(x.After(7, 0, 10)), 2)
	sleeps(t, "Sleep", x.Sleep(a, 0, 10), api.OK)
	due(t, x, 5, every(1, 8, 5, 5))
	gives(t, "After", of(x.After(6, 5, 5)), 4)
	want := []api.Timer{after(2, 7, 10), sleeper(3, a, 10), every(1, 8, 10, 5), after(4, 6, 10)}
	stands(t, "armed anew", x, 4, want...)
	due(t, x, 10, want...)
	stands(t, "then", x, 4, every(1, 8, 15, 5))
}

// TestArmedAnewTogether: T3: tickers that are told at one time and get one When are armed in the order of the answer, not of their names.
func TestArmedAnewTogether(t *testing.T) {
	x := timer.New()
	gives(t, "Every", of(x.Every(1, 0, 6)), 1) // 6, 12
	gives(t, "Every", of(x.Every(2, 0, 4)), 2) // 4, 8, 12
	gives(t, "Every", of(x.Every(3, 0, 3)), 3) // 3, .. 12
	gives(t, "After", of(x.After(4, 0, 12)), 4)
	due(t, x, 11, every(3, 3, 3, 3), every(2, 2, 4, 4), every(1, 1, 6, 6))
	want := []api.Timer{after(4, 4, 12), every(3, 3, 12, 3), every(2, 2, 12, 4), every(1, 1, 12, 6)}
	stands(t, "armed anew", x, 4, want...)
	due(t, x, 12, want...)
	due(t, x, 24, every(3, 3, 15, 3), every(2, 2, 16, 4), every(1, 1, 18, 6))
	stands(t, "then", x, 4, every(3, 3, 27, 3), every(2, 2, 28, 4), every(1, 1, 30, 6))
}

// TestNeverInOrder: T3, T4: those that are never due stand as they were armed, tickers that are never due again behind those that were there, in the order of the answer.
func TestNeverInOrder(t *testing.T) {
	x := timer.New()
	gives(t, "Every", of(x.Every(1, end-3, 2)), 1) // at 2^64 - 2
	gives(t, "Every", of(x.Every(2, end-3, 1)), 2) // at 2^64 - 3, ..
	gives(t, "After", of(x.After(3, end, 9)), 3)
	sleeps(t, "Sleep", x.Sleep(a, end, end), api.OK)
	gives(t, "Every", of(x.Every(5, end, 1)), 5)
	stay := []api.Timer{never(after(3, 3, 0)), never(sleeper(4, a, 0)), never(every(5, 5, 0, 1))}
	stands(t, "at first", x, 5, slices.Concat([]api.Timer{every(2, 2, end-2, 1), every(1, 1, end-1, 2)}, stay)...)
	due(t, x, end-2, every(2, 2, end-2, 1))
	stands(t, "one is due again", x, 5, slices.Concat([]api.Timer{every(1, 1, end-1, 2), every(2, 2, end-1, 1)}, stay)...)
	due(t, x, end-1, every(1, 1, end-1, 2), every(2, 2, end-1, 1))
	stay = append(stay, never(every(1, 1, 0, 2)))
	stands(t, "one is never due again", x, 5, slices.Concat([]api.Timer{every(2, 2, end, 1)}, stay)...)
	gives(t, "After", of(x.After(6, end, 1)), 6)
	stay = append(stay, never(after(6, 6, 0)))
	due(t, x, end, every(2, 2, end, 1))
	stay = append(stay, never(every(2, 2, 0, 1)))
	stands(t, "none is", x, 6, stay...)
	due(t, x, end)
	stops(t, "Stop", x.Stop(5), true)
	stands(t, "one was stopped", x, 6, without(stay, 2)...)
}

// nextTime is the first of when + period, when + 2 period, .. above now, in numbers without a bound.
func nextTime(x api.Timer, now uint64) api.Timer {
	wide := func(n uint64) *big.Int { return new(big.Int).SetUint64(n) }
	n := new(big.Int).Sub(wide(now), wide(x.When))
	n.Div(n, wide(x.Period))
	n.Add(n, big.NewInt(1))
	n.Mul(n, wide(x.Period))
	n.Add(n, wide(x.When))
	if !n.IsUint64() {
		return never(x)
	}
	x.When = n.Uint64()
	return x
}

// TestMissedTimes: T3: a ticker whose time has passed any number of times is told once, and runs on with the first of its times above now, or never.
func TestMissedTimes(t *testing.T) {
	for _, when := range edges() {
		for _, period := range edges() {
			for _, now := range edges() {
				if period == 0 || now < when {
					continue
				}
				x := load(t, 3, every(3, 8, when, period))
				due(t, x, now, every(3, 8, when, period))
				stands(t, "Due", x, 3, nextTime(every(3, 8, when, period), now))
				due(t, x, now)
			}
		}
	}
}

// TestMissedTimesOneByOne: T3: likewise, the times gone through one by one.
func TestMissedTimesOneByOne(t *testing.T) {
	for when := range uint64(6) {
		for period := uint64(1); period < 8; period++ {
			for now := when; now < 40; now++ {
				x := load(t, 1, every(1, 8, when, period))
				due(t, x, now, every(1, 8, when, period))
				want := when + period
				for want <= now {
					want += period
				}
				next(t, x, want)
			}
		}
	}
}

// TestLastTimes: T3: a ticker's last time may be the last tick, and it is not due behind that, though it runs till it is stopped.
func TestLastTimes(t *testing.T) {
	for _, at := range []struct {
		when, period, now uint64
		want              api.Timer
	}{
		{end - 1, 1, end - 1, every(1, 8, end, 1)},
		{end - 1, 2, end - 1, never(every(1, 8, 0, 2))},
		{end - 5, 5, end - 1, every(1, 8, end, 5)},
		{end - 5, 5, end, never(every(1, 8, 0, 5))},
		{end - 6, 5, end - 1, never(every(1, 8, 0, 5))},
		{end, 1, end, never(every(1, 8, 0, 1))},
		{1, end - 1, 1, every(1, 8, end, end-1)},
		{2, end - 1, 2, never(every(1, 8, 0, end-1))},
		{0, end, 0, every(1, 8, end, end)},
		{0, end, end - 1, every(1, 8, end, end)},
		{0, 1, end - 1, every(1, 8, end, 1)},
		{0, 1, end, never(every(1, 8, 0, 1))},
	} {
		x := load(t, 1, every(1, 8, at.when, at.period))
		due(t, x, at.now, every(1, 8, at.when, at.period))
		stands(t, "Due", x, 1, at.want)
		stops(t, "Stop", x.Stop(1), true)
		stands(t, "Stop", x, 1)
	}
}

// TestAllAtOnce: T3: 1024 of one When, and 1024 of falling Whens.
func TestAllAtOnce(t *testing.T) {
	x, y := timer.New(), timer.New()
	var one, falling []api.Timer
	for n := range int64(most) {
		gives(t, "After", of(x.After(n, 0, 9)), n+1)
		one = append(one, after(n+1, n, 9))
		gives(t, "Every", of(y.Every(n, 0, uint64(2*most-n))), n+1)
		falling = append(falling, every(n+1, n, uint64(2*most-n), uint64(2*most-n)))
	}
	slices.Reverse(falling)
	stands(t, "one When", x, most, one...)
	stands(t, "falling Whens", y, most, falling...)
	due(t, x, 9, one...)
	stands(t, "one When, told", x, most)
	due(t, y, 2*most, falling...)
	if _, l := y.State(); len(l) != most {
		t.Errorf("%d run on", len(l))
	}
}
