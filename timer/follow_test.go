package timer_test

import (
	"math/rand/v2"
	"slices"
	"testing"

	"rota/api"
	"rota/timer"
)

// walker makes calls by chance on a Timers, with a clock that rises, and keeps what was told from outside.
type walker struct {
	r     *rand.Rand
	x     *timer.Timers
	clock uint64
	told  map[int64]int // how often a name was told
}

func newWalker(seed, clock uint64) *walker {
	return &walker{rand.New(rand.NewPCG(seed, 14)), timer.New(), clock, map[int64]int{}}
}

// ticks is some ticks, mostly few.
func (w *walker) ticks() uint64 {
	if w.r.IntN(10) == 0 {
		return end - uint64(w.r.IntN(200))
	}
	return uint64(w.r.IntN(30))
}

// arm lets something run, or stops it.
func (w *walker) arm() {
	switch w.r.IntN(7) {
	case 0, 1, 2:
		w.x.Sleep(api.Gid{Slot: w.r.IntN(8), Gen: w.r.IntN(2)}, w.clock, w.ticks())
	case 3, 4:
		w.x.After(int64(w.r.IntN(4)), w.clock, w.ticks())
	case 5:
		w.x.Every(int64(w.r.IntN(4)), w.clock, w.ticks())
	default:
		last, _ := w.x.State()
		w.x.Stop(last - int64(w.r.IntN(12)))
	}
}

// pass lets the clock go on by some ticks; it ends with the last one.
func (w *walker) pass(n uint64) {
	if end-w.clock < n {
		n = end - w.clock
	}
	w.clock += n
}

// clocks is where the walks begin: far from the end, and so near that they come to it.
func clocks() []uint64 { return []uint64{0, 1000, 1 << 63, end - 300, end - 20} }

// TestNeverEarly: T5: nothing that Due tells is due above now, nothing that is due at now or before is left, and all that ran is told or left.
func TestNeverEarly(t *testing.T) {
	count := 0
	for seed := range uint64(20) {
		for _, clock := range clocks() {
			w := newWalker(seed, clock)
			for range 200 {
				w.arm()
				if w.r.IntN(2) == 0 {
					continue
				}
				w.pass(uint64(w.r.IntN(8)))
				_, was := w.x.State()
				told := w.x.Due(w.clock)
				_, left := w.x.State()
				for _, x := range told {
					count++
					if x.Never || x.When > w.clock {
						t.Fatalf("Due(%d) tells early %+v", w.clock, x)
					}
				}
				for _, x := range left {
					if !x.Never && x.When <= w.clock {
						t.Fatalf("Due(%d) has left %+v", w.clock, x)
					}
				}
				for _, x := range was {
					is := func(y api.Timer) bool { return y == x }
					if slices.ContainsFunc(told, is) == slices.ContainsFunc(left, is) {
						t.Fatalf("Due(%d): of %+v it tells %+v, and %+v is left", w.clock, was, told, left)
					}
				}
			}
		}
	}
	if count < 2000 {
		t.Errorf("%d were told: too few to tell anything", count)
	}
}

// TestNobodyIsToldTwice: T6: a sleep and an After are told once, and no more by whatever follows; an Every may be.
func TestNobodyIsToldTwice(t *testing.T) {
	again := 0
	for seed := range uint64(20) {
		for _, clock := range clocks() {
			w := newWalker(seed, clock)
			for range 200 {
				w.arm()
				if w.r.IntN(3) == 0 {
					w.pass(uint64(w.r.IntN(12)))
				}
				for _, x := range w.x.Due(w.clock) {
					w.told[x.Id]++
					switch {
					case x.Kind == api.TimEvery && w.told[x.Id] > 1:
						again++
					case w.told[x.Id] > 1:
						t.Fatalf("Due(%d) tells again %+v", w.clock, x)
					}
				}
				// A clock that goes back tells nobody again either.
				if l := w.x.Due(0); w.clock > 0 && slices.ContainsFunc(l, func(x api.Timer) bool { return w.told[x.Id] > 0 }) {
					t.Fatalf("Due(0) tells again, of %+v", l)
				}
			}
		}
	}
	if again < 500 {
		t.Errorf("%d were told again: too few to tell anything", again)
	}
}

// once is those of a list that are told once: sleepers and Afters.
func once(l []api.Timer) []api.Timer {
	return slices.DeleteFunc(slices.Clone(l), func(x api.Timer) bool { return x.Kind == api.TimEvery })
}

// TestInTwoSteps: T7: Due at a and then at b tells of sleepers and Afters what Due at b alone tells, in the same order; in three steps too.
func TestInTwoSteps(t *testing.T) {
	count := 0
	for seed := range uint64(40) {
		for _, clock := range clocks() {
			w := newWalker(seed, clock)
			for range 60 {
				w.arm()
			}
			last, l := w.x.State()
			for range 10 {
				one, two, three := load(t, last, l...), load(t, last, l...), load(t, last, l...)
				from := w.clock
				w.pass(uint64(w.r.IntN(10)))
				mid := w.clock
				w.pass(uint64(w.r.IntN(10)))
				far := w.clock
				w.clock = from
				want := once(one.Due(far))
				got := slices.Concat(once(two.Due(mid)), once(two.Due(far)))
				more := slices.Concat(once(three.Due(from)), once(three.Due(mid)), once(three.Due(far)))
				count += len(want)
				if !slices.Equal(got, want) || !slices.Equal(more, want) {
					t.Fatalf("Due(%d), Due(%d): %+v, and %+v in three steps; Due(%d) alone: %+v", mid, far, got, more, far, want)
				}
			}
		}
	}
	if count < 2000 {
		t.Errorf("%d were told: too few to tell anything", count)
	}
}

// TestInTwoStepsArmedBetween: T7: what is armed between comes to its place, and the others keep their order.
func TestInTwoStepsArmedBetween(t *testing.T) {
	x := timer.New()
	x.After(1, 0, 5)
	x.Sleep(a, 0, 9)
	x.After(3, 0, 12)
	x.After(4, 0, 12)
	due(t, x, 5, after(1, 1, 5))
	x.After(5, 5, 7)
	x.After(6, 5, 1)
	due(t, x, 12, after(6, 6, 6), sleeper(2, a, 9), after(3, 3, 12), after(4, 4, 12), after(5, 5, 12))
}

// TestEachPeriod: T8: an Every that is asked at each tick is told each p ticks, with the tick as its When, whatever else runs.
func TestEachPeriod(t *testing.T) {
	for period := uint64(1); period < 12; period++ {
		for _, from := range []uint64{0, 1, 7, 1 << 32, 1 << 63, end - 400, end - 60} {
			x := timer.New()
			x.Every(1, from, 5)
			x.After(2, from, 40)
			gives(t, "Every", of(x.Every(8, from, period)), 3)
			x.Every(3, from, period)
			for passed := uint64(1); passed <= 300 && passed <= end-from; passed++ {
				now := from + passed
				l := x.Due(now)
				at := slices.IndexFunc(l, func(x api.Timer) bool { return x.Id == 3 })
				if is := passed%period == 0; is != (at >= 0) {
					t.Fatalf("of the period %d from %d on Due(%d) is %+v", period, from, now, l)
				}
				if at >= 0 && l[at] != every(3, 8, now, period) {
					t.Fatalf("of the period %d from %d on Due(%d) tells %+v", period, from, now, l[at])
				}
			}
		}
	}
}

// TestLongPeriods: T8: of a long period, asked at the ticks about its times.
func TestLongPeriods(t *testing.T) {
	for _, period := range []uint64{1 << 20, 1 << 62, end / 3, 1 << 63, end - 1, end} {
		x := timer.New()
		x.Every(8, 0, period)
		for now := period; ; now += period {
			due(t, x, now-1)
			due(t, x, now, every(1, 8, now, period))
			if now > end-period || now > 20<<20 && period == 1<<20 {
				break
			}
			due(t, x, now+1)
		}
	}
}
