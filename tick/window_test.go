package tick_test

import (
	"math/big"
	"testing"

	"rota/api"
	"rota/tick"
)

// A4 and A5, by the words of the document: each tick is looked at.

func TestLeftByPlaces(t *testing.T) {
	smallWindows(7, func(w api.Window, frame uint64) {
		for _, at := range spots(20) {
			if got, want := told(tick.Left(at, frame, w)), leftByPlaces(at, frame, w); got != want {
				t.Errorf("Left(%d, %d, %v): %v, not %v", at, frame, w, got, want)
			}
		}
	})
}

func TestCountByTicks(t *testing.T) {
	smallWindows(6, func(w api.Window, frame uint64) {
		for _, at := range spots(15) {
			for n := range uint64(20) {
				if got, want := told(tick.Count(at, n, frame, w)), countByTicks(at, n, frame, w); got != want {
					t.Errorf("Count(%d, %d, %d, %v): %v, not %v", at, n, frame, w, got, want)
				}
			}
		}
	})
}

func TestNthByTicks(t *testing.T) {
	smallWindows(6, func(w api.Window, frame uint64) {
		for _, at := range spots(15) {
			for k := range uint64(16) {
				if got, want := told(tick.Nth(at, k, frame, w)), nthByTicks(at, k, frame, w); got != want {
					t.Errorf("Nth(%d, %d, %d, %v): %v, not %v", at, k, frame, w, got, want)
				}
			}
		}
	})
}

// A4 and A5 where frames and windows are great.

func TestLeftAtEdges(t *testing.T) {
	properWindows(func(w api.Window, frame uint64) {
		for _, at := range edges {
			want := new(big.Int).Add(wide(w.Start), wide(w.Length))
			want.Sub(want, wide(at%frame))
			if at%frame < w.Start || want.Sign() < 0 {
				want.SetInt64(0)
			}
			if got := told(tick.Left(at, frame, w)); got != bounded(want) {
				t.Errorf("Left(%d, %d, %v): %v, not %v", at, frame, w, got, want)
			}
		}
	})
}

func TestCountAtEdges(t *testing.T) {
	properWindows(func(w api.Window, frame uint64) {
		for _, at := range edges {
			for _, n := range edges {
				end := new(big.Int).Add(wide(at), wide(n))
				want := number{0, api.ErrEnd}
				if n == 0 || end.Cmp(behind()) <= 0 {
					want = bounded(between(at, end, frame, w))
				}
				if got := told(tick.Count(at, n, frame, w)); got != want {
					t.Errorf("Count(%d, %d, %d, %v): %v, not %v", at, n, frame, w, got, want)
				}
			}
		}
	})
}

// Where there is an Nth tick, it is inside and k come ahead of it (A6); where there is none, no more than k are left.
func TestNthAtEdges(t *testing.T) {
	properWindows(func(w api.Window, frame uint64) {
		for _, at := range edges {
			rest := between(at, behind(), frame, w)
			for _, k := range edges {
				u, e := tick.Nth(at, k, frame, w)
				if rest.Cmp(wide(k)) <= 0 {
					if u != 0 || e != api.ErrEnd {
						t.Errorf("Nth(%d, %d, %d, %v): %d, %d, but there is none", at, k, frame, w, u, e)
					}
					continue
				}
				if e != api.OK || u < at || between(at, wide(u), frame, w).Cmp(wide(k)) != 0 {
					t.Errorf("Nth(%d, %d, %d, %v): %d, %d", at, k, frame, w, u, e)
					continue
				}
				if left, e := tick.Left(u, frame, w); left == 0 || e != api.OK {
					t.Errorf("Nth(%d, %d, %d, %v): %d is outside", at, k, frame, w, u)
				}
			}
		}
	})
}

// A6: what follows, between the calls themselves.

func TestCountsAddUp(t *testing.T) {
	properWindows(func(w api.Window, frame uint64) {
		for _, at := range edges {
			for _, n := range []uint64{0, 1, 3, last / 3, 1 << 63} {
				for _, m := range []uint64{0, 1, 2, last / 5, 1<<63 - 1} {
					if n > last-at || m > last-at-n {
						continue
					}
					first, e := tick.Count(at, n, frame, w)
					second, f := tick.Count(at+n, m, frame, w)
					both, g := tick.Count(at, n+m, frame, w)
					if e != api.OK || f != api.OK || g != api.OK || first+second != both {
						t.Errorf("Count at %d of %d and %d, %d, %v: %d and %d, but %d", at, n, m, frame, w, first, second, both)
					}
				}
			}
		}
	})
}

func TestCountUpToNthIsItsNumber(t *testing.T) {
	properWindows(func(w api.Window, frame uint64) {
		for _, at := range edges {
			for _, k := range edges {
				u, e := tick.Nth(at, k, frame, w)
				if e != api.OK {
					continue
				}
				if got := told(tick.Count(at, u-at, frame, w)); got != (number{k, api.OK}) {
					t.Errorf("Count from %d up to %d, %d, %v: %v, not %d", at, u, frame, w, got, k)
				}
				if got := told(tick.Count(u, 1, frame, w)); got != (number{1, api.OK}) {
					t.Errorf("Nth(%d, %d, %d, %v): %d is outside", at, k, frame, w, u)
				}
			}
		}
	})
}

func TestLeftIsCountUpToTheEnd(t *testing.T) {
	properWindows(func(w api.Window, frame uint64) {
		for _, at := range edges {
			left, e := tick.Left(at, frame, w)
			if e != api.OK {
				t.Errorf("Left(%d, %d, %v): %d", at, frame, w, e)
			}
			if left == 0 || left-1 > last-at {
				continue
			}
			if got := told(tick.Count(at, left, frame, w)); got != (number{left, api.OK}) {
				t.Errorf("Count of the %d left at %d, %d, %v: %v", left, at, frame, w, got)
			}
			// A window that fills its frame begins anew at once.
			if left > last-at || w.Length == frame {
				continue
			}
			if got := told(tick.Left(at+left, frame, w)); got != (number{0, api.OK}) {
				t.Errorf("Left(%d, %d, %v): %v behind the end", at+left, frame, w, got)
			}
		}
	})
}

func TestAnyFrameHasTheLength(t *testing.T) {
	properWindows(func(w api.Window, frame uint64) {
		for _, at := range edges {
			want := number{w.Length, api.OK}
			if frame-1 > last-at {
				want = number{0, api.ErrEnd}
			}
			if got := told(tick.Count(at, frame, frame, w)); got != want {
				t.Errorf("Count of a frame at %d, %d, %v: %v, not %v", at, frame, w, got, want)
			}
		}
	})
}
