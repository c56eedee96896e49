package sema_test

import (
	"math"
	"math/big"
	"testing"

	"rota/api"
	"rota/sema"
)

// TestAdd: K2: counts and what is added to them, at both ends; those that wait.
func TestAdd(t *testing.T) {
	const most, least = math.MaxInt64, math.MinInt64
	negative := trapped(api.TrapNegative)
	for _, at := range []struct {
		count, d int64
		want     api.Held
		after    int64
	}{
		{0, 0, passed(), 0}, {0, 1, passed(), 1}, {0, -1, negative, 0}, {0, most, passed(), most}, {0, least, negative, 0}, {0, -most, negative, 0},
		{1, 0, passed(), 1}, {1, -2, negative, 1}, {1, most, negative, 1}, {1, most - 1, passed(), most}, {1, least, negative, 1}, {1, -most, negative, 1},
		{5, -4, passed(), 1}, {5, -6, negative, 5}, {5, 7, passed(), 12},
		{most, 0, passed(), most}, {most, 1, negative, most}, {most, 2, negative, most}, {most, most, negative, most}, {most, -1, passed(), most - 1},
		{most, least, negative, most}, {most, -most + 1, passed(), 1}, {most - 1, 1, passed(), most}, {most - 1, 2, negative, most - 1}, {most - 1, -most, negative, most - 1},
	} {
		for _, n := range someNumbers() {
			x := loaded(t, group(int(n), at.count))
			does(t, "Add", x.Add(n, at.d), at.want)
			stands(t, "Add", x, group(int(n), at.after))
			if at.count == 0 {
				continue
			}
			// Somebody waits where the count is above 0, and goes on waiting as long as it is.
			x = loaded(t, group(int(n), at.count, a, b), group(int(n+1)%number, 3, c), semaphore(int(n), 0, d))
			does(t, "Add, two wait", x.Add(n, at.d), at.want)
			stands(t, "Add, two wait", x, group(int(n), at.after, a, b), group(int(n+1)%number, 3, c), semaphore(int(n), 0, d))
		}
	}
}

// TestAddToNothing: K2: all that wait are woken, in order, when the count is 0; nobody else is.
func TestAddToNothing(t *testing.T) {
	for _, count := range []int64{1, 2, 5, math.MaxInt64} {
		for n := range 6 {
			l := everybody()[:n]
			x := loaded(t, group(7, count, l...), group(8, count, api.Gid{Slot: 70}), semaphore(7, 0, api.Gid{Slot: 71}), mutex(7, locked(toLock(api.Gid{Slot: 72}))))
			does(t, "Add to 0", x.Add(7, -count), wakes(l...))
			stands(t, "Add to 0", x, group(8, count, api.Gid{Slot: 70}), semaphore(7, 0, api.Gid{Slot: 71}), mutex(7, locked(toLock(api.Gid{Slot: 72}))))
			does(t, "Add of nothing", x.Add(7, 0), passed())
			does(t, "Add of one", x.Add(7, 1), passed())
			does(t, "Add to 0 again", x.Add(7, -1), passed())
		}
	}
}

// TestSums: K2: Add is a sum of numbers without a bound.
func TestSums(t *testing.T) {
	numbers := []int64{0, 1, 2, 1 << 31, 1 << 32, 1 << 62, 1<<62 - 1, 1<<62 + 1, math.MaxInt64 - 1, math.MaxInt64}
	for _, count := range numbers {
		for _, d := range numbers {
			for _, d := range []int64{d, -d, -d - 1} {
				sum := new(big.Int).Add(big.NewInt(count), big.NewInt(d))
				x, after, want := loaded(t, group(0, count)), count, trapped(api.TrapNegative)
				if sum.Sign() >= 0 && sum.Cmp(big.NewInt(math.MaxInt64)) <= 0 {
					after, want = sum.Int64(), passed()
				}
				does(t, "Add", x.Add(0, d), want)
				stands(t, "Add", x, group(0, after))
			}
		}
	}
}

// TestWait: K2: at 0 nothing is done, above it one waits, behind the others.
func TestWait(t *testing.T) {
	for _, n := range someNumbers() {
		x := sema.New()
		goes(t, "Wait at 0", of(x.Wait(n, a)), passed())
		stands(t, "Wait at 0", x)
		for _, count := range []int64{1, 2, math.MaxInt64} {
			x = loaded(t, group(int(n), count))
			goes(t, "Wait", of(x.Wait(n, c)), blocked())
			goes(t, "Wait", of(x.Wait(n, a)), blocked())
			goes(t, "Wait", of(x.Wait(n, b)), blocked())
			stands(t, "Wait", x, group(int(n), count, c, a, b))
			does(t, "Add", x.Add(n, -count), wakes(c, a, b))
			goes(t, "Wait at 0", of(x.Wait(n, a)), passed())
		}
	}
}

// TestGroupAgain: K2: a wait group can be used again.
func TestGroupAgain(t *testing.T) {
	x := sema.New()
	for _, g := range everybody() {
		does(t, "Add", x.Add(0, 2), passed())
		goes(t, "Wait", of(x.Wait(0, g)), blocked())
		does(t, "Add", x.Add(0, -1), passed())
		does(t, "Add", x.Add(0, 5), passed())
		does(t, "Add", x.Add(0, -6), wakes(g))
	}
	stands(t, "all is done", x)
}
