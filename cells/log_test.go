package cells_test

import (
	"math"
	"slices"
	"testing"

	"rota/api"
	"rota/cells"
)

// TestExampleOfReplay: C3: the chapter's example 3.
func TestExampleOfReplay(t *testing.T) {
	replays(t, []int64{1}, []api.Access{left(0, api.AccLoad, 1)}, 1)
	breaks(t, []int64{1}, []api.Access{{Cell: 0, Kind: api.AccLoad, Before: 2, After: 1}}, 0, api.ErrLog)
	breaks(t, []int64{1}, []api.Access{left(0, api.AccLoad, 2)}, 0, api.ErrLog)
	breaks(t, []int64{1}, []api.Access{left(1, api.AccLoad, 1)}, 0, api.ErrCell)
}

// TestReplayOfNothing: C3: values of any length are told as they are, beyond the number of cells that New makes too.
func TestReplayOfNothing(t *testing.T) {
	replays(t, nil, nil)
	replays(t, []int64{}, []api.Access{})
	for _, n := range []int{0, 1, 2, limit - 1, limit, limit + 1, 5000} {
		replays(t, differing(n), nil, differing(n)...)
		replays(t, differing(n), []api.Access{}, differing(n)...)
	}
}

// TestReplayOverAnyLength: C3: each place of values is a cell, and no other number is.
func TestReplayOverAnyLength(t *testing.T) {
	for _, n := range []int{0, 1, 2, limit - 1, limit, limit + 1, 5000} {
		values := differing(n)
		for _, i := range noCells(n) {
			breaks(t, values, []api.Access{left(i, api.AccLoad, 0)}, 0, api.ErrCell)
			breaks(t, values, []api.Access{wrote(i, api.AccStore, 0, 1)}, 0, api.ErrCell)
		}
		if n == 0 {
			continue
		}
		for _, i := range []int{0, n / 2, n - 1} {
			replays(t, values, []api.Access{left(i, api.AccLoad, values[i])}, values...)
			replays(t, values, []api.Access{wrote(i, api.AccAdd, values[i], -5)}, except(values, i, -5)...)
		}
	}
}

// TestReplayOfEachKind: C3: one that wrote, and one that did not.
func TestReplayOfEachKind(t *testing.T) {
	for _, x := range []struct {
		kind         int
		wrote, leave bool // whether it may
	}{
		{api.AccLoad, false, true},
		{api.AccStore, true, false},
		{api.AccSwap, true, true},
		{api.AccAdd, true, false},
	} {
		for _, there := range edges() {
			values := []int64{8, there, 9}
			for _, after := range edges() {
				l := []api.Access{wrote(1, x.kind, there, after)}
				if x.wrote {
					replays(t, values, l, 8, after, 9)
				} else {
					breaks(t, values, l, 0, api.ErrLog)
				}
			}
			l := []api.Access{left(1, x.kind, there)}
			if x.leave {
				replays(t, values, l, values...)
			} else {
				breaks(t, values, l, 0, api.ErrLog)
			}
		}
	}
}

// TestReplayOfNoKind: C3: whether or not it wrote.
func TestReplayOfNoKind(t *testing.T) {
	for _, kind := range noKinds() {
		breaks(t, []int64{8, 5}, []api.Access{left(1, kind, 5)}, 0, api.ErrLog)
		breaks(t, []int64{8, 5}, []api.Access{wrote(1, kind, 5, 5)}, 0, api.ErrLog)
		breaks(t, []int64{8, 5}, []api.Access{wrote(1, kind, 5, 6)}, 0, api.ErrLog)
	}
}

// TestReplayOfWhatDoesNotFit: C3: a Before that is not what is in that cell (but what is in another one, or was there ahead), and an After that was not written.
func TestReplayOfWhatDoesNotFit(t *testing.T) {
	for kind := api.AccLoad; kind <= api.AccAdd; kind++ {
		for _, there := range edges() {
			for _, other := range edges() {
				if other == there {
					continue
				}
				values := []int64{other, there}
				first := []api.Access{wrote(1, api.AccStore, there, other)}
				for _, a := range []api.Access{
					left(1, kind, other),
					wrote(1, kind, other, other),
					wrote(1, kind, other, there),
					{Cell: 1, Kind: kind, Before: there, After: other},
					{Cell: 1, Kind: kind, Before: other, After: there},
				} {
					breaks(t, values, []api.Access{a}, 0, api.ErrLog)
				}
				breaks(t, values, append(first, left(1, kind, there)), 1, api.ErrLog)
				breaks(t, values, append(first, wrote(1, kind, there, other)), 1, api.ErrLog)
			}
		}
	}
}

// goodLog is a log of two cells that hold 1 and 2, with an access of each kind that wrote and that did not.
func goodLog() []api.Access {
	return []api.Access{
		left(0, api.AccLoad, 1),
		wrote(1, api.AccStore, 2, 5),
		wrote(0, api.AccSwap, 1, 7),
		left(1, api.AccSwap, 5),
		wrote(1, api.AccAdd, 5, math.MinInt64),
		wrote(0, api.AccStore, 7, 7),
		wrote(0, api.AccSwap, 7, 7),
		left(1, api.AccLoad, math.MinInt64),
	}
}

// TestReplayOfALog: C3: an access is held against what those ahead of it left.
func TestReplayOfALog(t *testing.T) {
	l := goodLog()
	replays(t, []int64{1, 2}, l, 7, math.MinInt64)
	replays(t, []int64{1, 2}, l[:2], 1, 5)
	replays(t, []int64{1, 2}, l[:4], 7, 5)
	replays(t, []int64{1, 2, 3}, l, 7, math.MinInt64, 3)
	breaks(t, []int64{1}, l, 1, api.ErrCell)
	breaks(t, nil, l, 0, api.ErrCell)
	breaks(t, []int64{1, 3}, l, 1, api.ErrLog)
	breaks(t, []int64{0, 3}, l, 0, api.ErrLog)
}

// TestReplayTellsTheFirst: C3, R2: the place of the first wrong one, of whichever error that is; of one access ErrCell ahead of ErrLog.
func TestReplayTellsTheFirst(t *testing.T) {
	noCell, noKind, both := left(2, api.AccLoad, 0), left(0, 9, 7), api.Access{Cell: -1, Kind: 9, Before: 3, After: 4}
	unlike := left(0, api.AccLoad, 1000)
	for n := range len(goodLog()) + 1 {
		with := func(wrong ...api.Access) []api.Access {
			return slices.Insert(goodLog(), n, wrong...)
		}
		values := []int64{1, 2}
		breaks(t, values, with(noCell), n, api.ErrCell)
		breaks(t, values, with(noKind), n, api.ErrLog)
		breaks(t, values, with(unlike), n, api.ErrLog)
		breaks(t, values, with(both), n, api.ErrCell)
		breaks(t, values, with(noCell, unlike), n, api.ErrCell)
		breaks(t, values, with(unlike, noCell), n, api.ErrLog)
		breaks(t, values, with(noKind, both), n, api.ErrLog)
		breaks(t, values, with(both, noKind), n, api.ErrCell)
	}
	for _, kind := range append(noKinds(), api.AccLoad, api.AccStore, api.AccSwap, api.AccAdd) {
		breaks(t, []int64{1}, []api.Access{{Cell: 1, Kind: kind, Before: 3, After: 4}}, 0, api.ErrCell)
		breaks(t, []int64{1}, []api.Access{{Cell: -1, Kind: kind, Before: 3, After: 4, Wrote: true}}, 0, api.ErrCell)
	}
}

// TestExampleOfFrom: C4: the chapter's example 2.
func TestExampleOfFrom(t *testing.T) {
	comes(t, []api.Access{
		wrote(0, api.AccStore, 0, 1), left(0, api.AccLoad, 1), left(1, api.AccLoad, 0),
		left(0, api.AccSwap, 1), wrote(0, api.AccStore, 1, 2), left(0, api.AccLoad, 2),
	}, -1, 0, -1, 0, 0, 4)
}

// TestFromOfNothing: C4.
func TestFromOfNothing(t *testing.T) {
	comes(t, nil)
	comes(t, []api.Access{})
	comes(t, goodLog()[:0])
}

// TestFromOfFew: C4: none of them is its own, and none behind it is asked.
func TestFromOfFew(t *testing.T) {
	write, look := wrote(0, api.AccStore, 0, 1), left(0, api.AccLoad, 1)
	comes(t, []api.Access{write}, -1)
	comes(t, []api.Access{look}, -1)
	comes(t, []api.Access{look, write}, -1, -1)
	comes(t, []api.Access{write, look}, -1, 0)
	comes(t, []api.Access{write, write, write}, -1, 0, 1)
	comes(t, []api.Access{look, look, look}, -1, -1, -1)
	comes(t, goodLog(), -1, -1, -1, 1, 1, 2, 5, 4)
}

// TestFromOfAnyCell: C4: numbers that are no cell anywhere are told apart as others are.
func TestFromOfAnyCell(t *testing.T) {
	numbers := []int{-1, 0, 1, -2, limit, -limit, 1 << 32, -1 << 32, 1<<32 - 1, math.MaxInt, math.MinInt}
	var l []api.Access
	var want []int
	for range 3 {
		for _, i := range numbers {
			l = append(l, wrote(i, api.AccStore, 0, 0))
			want = append(want, max(-1, len(want)-len(numbers)))
		}
	}
	comes(t, l, want...)
}

// TestFromLooksAtNothingElse: C4: whatever an access's Kind, Before and After are: whether it wrote tells.
func TestFromLooksAtNothingElse(t *testing.T) {
	kinds := append(noKinds(), api.AccLoad, api.AccStore, api.AccSwap, api.AccAdd)
	for _, first := range kinds {
		for _, second := range kinds {
			for _, v := range []int64{0, 3, -4} {
				a := api.Access{Cell: 3, Kind: first, Before: v, After: 1, Wrote: true}
				b := api.Access{Cell: 3, Kind: second, Before: 2, After: v}
				comes(t, []api.Access{a, b, b, a, b}, -1, 0, 0, 0, 3)
				comes(t, []api.Access{b, a, a, b}, -1, -1, 1, 2)
			}
		}
	}
}

// TestFromOfManyCells: C4: as many cells as accesses, far more than New makes.
func TestFromOfManyCells(t *testing.T) {
	const many = 20000
	l := make([]api.Access, 2*many)
	for n := range l {
		l[n] = wrote(n%many-many/2, api.AccStore, 0, 0)
	}
	for n, at := range cells.From(l) {
		if want := max(-1, n-many); at != want {
			t.Fatalf("From, at %d: %d, not %d", n, at, want)
		}
	}
}
