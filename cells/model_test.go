package cells_test

import (
	"math/big"
	"math/rand/v2"
	"slices"
	"testing"

	"rota/api"
	"rota/cells"
)

// model is cells by the document's words: how many there are, and what was put last into each; what nothing was put into is 0.
type model struct {
	count int
	put   map[int]int64
}

// sum is a sum without bounds, as cells hold it.
func sum(a, b int64) int64 {
	s := new(big.Int).Add(big.NewInt(a), big.NewInt(b))
	return int64(s.Mod(s, new(big.Int).Lsh(big.NewInt(1), 64)).Uint64())
}

// call carries one out.
func (m model) call(x call) (api.Access, api.Errno) {
	if x.cell < 0 || x.cell > m.count-1 {
		return api.Access{}, 100
	}
	there := m.put[x.cell]
	a := api.Access{Cell: x.cell, Kind: x.kind, Before: there, Wrote: true}
	switch {
	case x.kind == api.AccStore, x.kind == api.AccSwap && x.old == there:
		a.After = x.v
	case x.kind == api.AccAdd:
		a.After = sum(there, x.v)
	default:
		a.After, a.Wrote = there, false
	}
	m.put[x.cell] = a.After
	return a, api.OK
}

// values is what is in them.
func (m model) values() []int64 {
	l := make([]int64, m.count)
	for i, v := range m.put {
		l[i] = v
	}
	return l
}

// walk carries out calls on new cells and on their model, and holds what is answered and what follows of that against each other: C1, C2, C5, C6.
func walk(t *testing.T, n int, calls []call) {
	t.Helper()
	c, m := fresh(t, n), model{count: n, put: map[int]int64{}}
	var log []api.Access
	for at, x := range calls {
		a, e := x.on(c)
		if b, f := m.call(x); a != b || e != f {
			t.Fatalf("%+v, at %d: %+v, %d, not %+v, %d", calls, at, a, e, b, f)
		}
		if e == api.OK {
			log = append(log, a)
		}
	}
	tells(t, "behind a walk", c, m.values()...)
	replays(t, make([]int64, n), log, c.Values()...)
	follows(t, make([]int64, n), log)
}

// follows holds a log that Replay takes against C6: each Before is the After of the one that From tells, or what was there at the beginning.
func follows(t *testing.T, values []int64, log []api.Access) {
	t.Helper()
	from := cells.From(log)
	if len(from) != len(log) {
		t.Fatalf("From(%+v): %v", log, from)
	}
	for n, a := range log {
		there := values[a.Cell]
		if from[n] >= 0 {
			there = log[from[n]].After
		}
		if a.Before != there {
			t.Fatalf("From(%+v), at %d: %d, whose After is not its Before", log, n, from[n])
		}
	}
}

// eachOf hands over all lists of up to so many of some things.
func eachOf[T any](things []T, most int, do func(l []T)) {
	var grow func(l []T)
	grow = func(l []T) {
		do(l)
		if len(l) == most {
			return
		}
		for _, x := range things {
			grow(append(slices.Clone(l), x))
		}
	}
	grow(nil)
}

// TestShortWalks: C1, C2, C5, C6: all walks of up to four calls of two cells, of none, and of a cell that is not there.
func TestShortWalks(t *testing.T) {
	calls := []call{
		load(0), load(1), load(2), store(0, 1), store(1, 0), store(-1, 1),
		swap(0, 0, 1), swap(0, 1, 0), swap(0, 1, 1), swap(1, 0, 2), swap(2, 0, 1), add(0, 1), add(0, -1), add(1, 0), add(2, 1),
	}
	eachOf(calls, 4, func(l []call) { walk(t, 2, l) })
	eachOf(calls, 2, func(l []call) { walk(t, 0, l) })
}

// TestLongWalks: C1, C2, C5, C6: some long ones, over numbers at the ends.
func TestLongWalks(t *testing.T) {
	r := rand.New(rand.NewPCG(10, 1))
	for round := range 200 {
		n := []int{0, 1, 2, 5, limit}[round%5]
		calls := make([]call, 400)
		numbers := edges()
		if round%2 == 0 {
			numbers = []int64{0, 1, -1} // so that many swaps write
		}
		pick := func() int64 { return numbers[r.IntN(len(numbers))] }
		for at := range calls {
			calls[at] = call{kind: 1 + r.IntN(4), cell: r.IntN(n+2) - r.IntN(2), old: pick(), v: pick()}
		}
		walk(t, n, calls)
	}
}

// modelReplay is the document's words: what is in a cell is told by the log up to there.
func modelReplay(values []int64, l []api.Access) ([]int64, int, api.Errno) {
	there := func(cell, end int) int64 {
		for at := end - 1; at >= 0; at-- {
			if l[at].Cell == cell {
				return l[at].After
			}
		}
		return values[cell]
	}
	for at, a := range l {
		switch {
		case a.Cell < 0, a.Cell > len(values)-1:
			return nil, at, 100
		case a.Kind < 1, a.Kind > 4, a.Before != there(a.Cell, at), !a.Wrote && a.After != a.Before:
			return nil, at, 101
		case a.Wrote && a.Kind == 1, !a.Wrote && (a.Kind == 2 || a.Kind == 4):
			return nil, at, 101
		}
	}
	out := make([]int64, len(values))
	for cell := range out {
		out[cell] = there(cell, len(l))
	}
	return out, 0, api.OK
}

// modelFrom is the document's words, each access by itself.
func modelFrom(l []api.Access) []int {
	var out []int
	for n, a := range l {
		at := n - 1
		for at >= 0 && !(l[at].Wrote && l[at].Cell == a.Cell) {
			at--
		}
		out = append(out, at)
	}
	return out
}

// against holds Replay and From of a log, any at all, against the models, and what follows of the two.
func against(t *testing.T, values []int64, l []api.Access) bool {
	t.Helper()
	got, at, e := cells.Replay(values, l)
	want, place, why := modelReplay(values, l)
	if !slices.Equal(got, want) || at != place || e != why {
		t.Fatalf("Replay(%v, %+v): %v, %d, %d, not %v, %d, %d", values, l, got, at, e, want, place, why)
	}
	if from := cells.From(l); !slices.Equal(from, modelFrom(l)) {
		t.Fatalf("From(%+v): %v, not %v", l, from, modelFrom(l))
	}
	if e == api.OK {
		follows(t, values, l)
	}
	return e == api.OK
}

// TestSingleAccesses: C3, C4: all that can be made of a few numbers.
func TestSingleAccesses(t *testing.T) {
	taken := 0
	for kind := -1; kind <= 6; kind++ {
		for cell := -2; cell <= 3; cell++ {
			for before := int64(0); before < 4; before++ {
				for after := int64(0); after < 4; after++ {
					for _, wrote := range []bool{false, true} {
						a := api.Access{Cell: cell, Kind: kind, Before: before, After: after, Wrote: wrote}
						if against(t, []int64{1, 2}, []api.Access{a}) {
							taken++
						}
					}
				}
			}
		}
	}
	// Of each of two cells: a load, a swap that did not write, and three kinds that wrote any of four.
	if taken != 2*(1+1+3*4) {
		t.Errorf("%d were taken", taken)
	}
}

// TestShortLogs: C3, C4, C6: all logs of up to four accesses of a choice.
func TestShortLogs(t *testing.T) {
	some := []api.Access{
		left(0, api.AccLoad, 0), left(0, api.AccLoad, 1), left(1, api.AccLoad, 0), left(0, api.AccSwap, 1), left(2, api.AccLoad, 0),
		wrote(0, api.AccStore, 0, 1), wrote(0, api.AccStore, 1, 0), wrote(1, api.AccStore, 0, 1), wrote(0, api.AccSwap, 1, 1),
		wrote(0, api.AccAdd, 0, 1), wrote(-1, api.AccAdd, 0, 1), wrote(0, api.AccLoad, 0, 0), wrote(1, 5, 0, 0),
	}
	taken := 0
	eachOf(some, 4, func(l []api.Access) {
		if against(t, []int64{0, 0}, l) {
			taken++
		}
	})
	if taken < 500 {
		t.Errorf("%d were taken", taken)
	}
}

// TestLongLogs: C3, C4, C6: logs that may be, of values of any length, which no Cells need have told; and the same with one of them spoilt.
func TestLongLogs(t *testing.T) {
	r := rand.New(rand.NewPCG(10, 2))
	for round := range 300 {
		values := differing([]int{1, 2, 7, limit, 400}[round%5])
		now := slices.Clone(values)
		l := make([]api.Access, 200)
		for at := range l {
			a := left(r.IntN(len(now)), []int{api.AccLoad, api.AccSwap}[r.IntN(2)], 0)
			if r.IntN(2) == 0 {
				a.Kind, a.Wrote = 2+r.IntN(3), true
			}
			a.Before, a.After = now[a.Cell], now[a.Cell]
			if a.Wrote {
				a.After = r.Int64() - r.Int64()
			}
			now[a.Cell] = a.After
			l[at] = a
		}
		if !against(t, values, l) {
			t.Fatalf("Replay(%v, %+v) is refused", values, l)
		}
		at := r.IntN(len(l))
		switch round % 4 {
		case 0:
			l[at].Before++
		case 1:
			l[at].Kind = noKinds()[r.IntN(len(noKinds()))]
		case 2:
			l[at].Cell = noCells(len(values))[r.IntN(len(noCells(0)))]
		case 3:
			l[at].Wrote, l[at].Kind = !l[at].Wrote, api.AccLoad
			l[at].After++
		}
		if against(t, values, l) {
			t.Fatalf("Replay(%v, %+v), spoilt at %d, is taken", values, l, at)
		}
	}
}
