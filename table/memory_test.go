package table_test

import (
	"slices"
	"sync"
	"testing"

	"rota/api"
	"rota/table"
)

// mark is what lists are written over with.
var mark = slot(-777, 777, 777, 777)

// roomy is a table in which each list has room behind its end, with marks in it.
func roomy(t api.Table) api.Table {
	behind := on(mark, mark)
	l := make([][]api.Slot, 0, len(t.Procs)+2)
	for _, p := range t.Procs {
		p = append(slices.Clone(p), mark, mark, mark)
		l = append(l, p[:len(p)-3])
	}
	t.Procs = append(l, behind, behind)[:len(l)]
	return t
}

// room is what lies behind the ends of a table's lists, those of its Ps first.
func room(t api.Table) (l []api.Slot) {
	for _, p := range t.Procs {
		l = append(l, p[len(p):cap(p)]...)
	}
	for _, p := range t.Procs[len(t.Procs):cap(t.Procs)] {
		l = append(l, p...)
	}
	return l
}

// askAll makes all calls of a table.
func askAll(t api.Table) {
	for _, d := range []int{0, 1, 2, 15, 16, 17} {
		table.Check(t, d)
	}
	for _, n := range []uint64{0, 1, 3, 7, 10, 25, last} {
		for i := range 6 {
			for _, c := range append(ofP(n, i), ofDomain(n, i)...) {
				c.do(t)
			}
		}
	}
}

// R3: what is handed in stays as it was, also the room behind its lists, whether or not it may be.
func TestHandedInStays(t *testing.T) {
	l := someTables()
	for _, w := range wrongTables() {
		l = append(l, w.tab)
	}
	for _, tab := range l {
		is := roomy(tab)
		was, behind := copyOf(is), room(is)
		askAll(is)
		if !same(is, was) || !slices.Equal(room(is), behind) {
			t.Errorf("%+v became %+v", was, is)
		}
	}
}

// R3: nil and the empty list are the same.
func TestNilAndEmpty(t *testing.T) {
	x, y := of(10, nil, on(slot(0, 2, 3, 1)), nil), of(10, on(), on(slot(0, 2, 3, 1)), []api.Slot{})
	for now := range uint64(10) {
		for p := range 3 {
			if a, b := ask(t, x, now, p), ask(t, y, now, p); a != b {
				t.Errorf("tick %d, P %d: %+v of nil, %+v of empty lists", now, p, a, b)
			}
		}
	}
	if check(x, 1) != fine || check(y, 1) != fine || check(api.Table{Frame: 1, Procs: [][]api.Slot{}}, 1).e != api.ErrFrame {
		t.Error("Check tells nil from the empty list")
	}
}

// R3: what Has tells is new memory each time, its spare room too.
func TestHasIsNewMemory(t *testing.T) {
	tab := alike(5, slot(0, 0, 10, 0))
	x := has(t, tab, 3, 0)
	y := has(t, tab, 3, 0)
	for i := range x[:cap(x)] {
		x[:cap(x)][i] = -777
	}
	if want := []int{0, 1, 2, 3, 4}; !slices.Equal(y, want) || !slices.Equal(has(t, tab, 3, 0), want) {
		t.Errorf("Has tells %v behind a change of what it told", y)
	}
}

// R4: a table says the same again, whatever was asked of it and of others in between, and of it or of a copy.
func TestSameAgain(t *testing.T) {
	l := someTables()
	for i, tab := range l {
		c := copyOf(tab)
		other := l[(i+7)%len(l)]
		for now := range uint64(35) {
			x, p, n := ask(t, tab, now, 0), has(t, tab, now, 0), ticks(t, tab, now, 1)
			w, s := wait(t, tab, 0, now), supplied(t, tab, 0, now)
			askAll(other)
			if ask(t, c, now, 0) != x || !slices.Equal(has(t, c, now, 0), p) || ticks(t, c, now, 1) != n || wait(t, c, 0, now) != w || supplied(t, c, 0, now) != s {
				t.Fatalf("%+v, %d: another answer than before", tab, now)
			}
		}
	}
}

// P7: several goroutines that ask one table are told the same.
func TestSideBySide(t *testing.T) {
	tab := greatest()
	var join sync.WaitGroup
	told := make([][]uint64, 8)
	for i := range told {
		join.Go(func() {
			for d := range domains {
				a, _ := table.Share(tab, d)
				b, _ := table.Ticks(tab, 5000, d)
				c, _, _ := table.Wait(tab, d, 61)
				e, _ := table.Supply(tab, d, 5000)
				told[i] = append(told[i], a, b, c, e)
			}
		})
	}
	join.Wait()
	for i := range told {
		if !slices.Equal(told[i], told[0]) {
			t.Errorf("goroutine %d was told %v, not %v", i, told[i], told[0])
		}
	}
}
