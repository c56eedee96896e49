package cells_test

import (
	"math"
	"testing"

	"rota/api"
	"rota/cells"
)

// TestNew: C1: as many as are asked for, all 0.
func TestNew(t *testing.T) {
	if api.MaxCells != limit {
		t.Fatalf("MaxCells: %d", api.MaxCells)
	}
	for n := range limit + 1 {
		tells(t, "New", fresh(t, n), make([]int64, n)...)
	}
}

// TestNewOfWrongNumbers: C1, R2: below 0 and above the limit.
func TestNewOfWrongNumbers(t *testing.T) {
	for _, n := range []int{-1, -2, -limit, limit + 1, limit + 2, 2 * limit, 1 << 32, 1<<32 + 1, -1 << 32, math.MaxInt, math.MinInt} {
		if c, e := cells.New(n); c != nil || e != api.ErrArg {
			t.Errorf("New(%d): %v, %d", n, c, e)
		}
	}
}

// TestExampleOfAccesses: C2: the chapter's example 1.
func TestExampleOfAccesses(t *testing.T) {
	c := fresh(t, 2)
	does(t, c, store(0, 5), wrote(0, api.AccStore, 0, 5))
	does(t, c, swap(0, 5, 7), wrote(0, api.AccSwap, 5, 7))
	does(t, c, swap(0, 5, 9), left(0, api.AccSwap, 7))
	does(t, c, add(0, math.MaxInt64), wrote(0, api.AccAdd, 7, math.MinInt64+6))
	refuses(t, c, load(2), api.ErrCell)
	tells(t, "the example", c, math.MinInt64+6, 0)
}

// TestLoad: C2: it tells what is there, and leaves it.
func TestLoad(t *testing.T) {
	for _, v := range edges() {
		c := holding(t, 8, v, 9)
		does(t, c, load(1), left(1, api.AccLoad, v))
		does(t, c, load(1), left(1, api.AccLoad, v))
		tells(t, "Load", c, 8, v, 9)
	}
}

// TestStore: C2: it puts there what it is given, and wrote, also where that is there already.
func TestStore(t *testing.T) {
	for _, there := range edges() {
		for _, v := range edges() {
			c := holding(t, 8, there, 9)
			does(t, c, store(1, v), wrote(1, api.AccStore, there, v))
			tells(t, "Store", c, 8, v, 9)
		}
	}
}

// TestSwap: C2: it wrote just if its old was there, also where its v is its old; else all is as it was.
func TestSwap(t *testing.T) {
	for _, there := range edges() {
		for _, v := range edges() {
			c := holding(t, 8, there, 9)
			does(t, c, swap(1, there, v), wrote(1, api.AccSwap, there, v))
			tells(t, "Swap", c, 8, v, 9)
		}
		for _, old := range edges() {
			if old == there {
				continue
			}
			for _, v := range []int64{there, old, 3} {
				c := holding(t, 8, there, 9)
				does(t, c, swap(1, old, v), left(1, api.AccSwap, there))
				tells(t, "Swap that did not write", c, 8, there, 9)
			}
		}
	}
}

// TestAdd: C2: it puts the sum there, and wrote, also where 0 is added.
func TestAdd(t *testing.T) {
	for _, x := range []struct{ there, v, sum int64 }{
		{0, 0, 0}, {0, 5, 5}, {5, 0, 5}, {5, -5, 0}, {5, -7, -2}, {-5, -7, -12}, {-5, 5, 0},
		{math.MaxInt64, 0, math.MaxInt64}, {math.MaxInt64 - 1, 1, math.MaxInt64}, {math.MinInt64 + 1, -1, math.MinInt64},
		{math.MaxInt64, math.MinInt64, -1}, {math.MinInt64, math.MaxInt64, -1},
	} {
		c := holding(t, 8, x.there, 9)
		does(t, c, add(1, x.v), wrote(1, api.AccAdd, x.there, x.sum))
		tells(t, "Add", c, 8, x.sum, 9)
	}
}

// TestAddWraps: C2: beyond both ends.
func TestAddWraps(t *testing.T) {
	for _, x := range []struct{ there, v, sum int64 }{
		{math.MaxInt64, 1, math.MinInt64}, {1, math.MaxInt64, math.MinInt64}, {math.MaxInt64, 2, math.MinInt64 + 1},
		{math.MaxInt64, math.MaxInt64, -2}, {1 << 62, 1 << 62, math.MinInt64},
		{math.MinInt64, -1, math.MaxInt64}, {-1, math.MinInt64, math.MaxInt64}, {math.MinInt64, -2, math.MaxInt64 - 1},
		{math.MinInt64, math.MinInt64, 0}, {-1 << 62, -1<<62 - 1, math.MaxInt64},
	} {
		c := holding(t, 8, x.there, 9)
		does(t, c, add(1, x.v), wrote(1, api.AccAdd, x.there, x.sum))
		tells(t, "Add that wraps", c, 8, x.sum, 9)
	}
}

// TestEachCell: C2: each cell is its own, the first and the last one too, and a call changes no other one.
func TestEachCell(t *testing.T) {
	for _, n := range []int{1, 2, limit - 1, limit} {
		values := differing(n)
		for i, there := range values {
			c := holding(t, values...)
			does(t, c, load(i), left(i, api.AccLoad, there))
			tells(t, "Load", c, values...)
			does(t, c, store(i, -3), wrote(i, api.AccStore, there, -3))
			tells(t, "Store", c, except(values, i, -3)...)
			does(t, c, swap(i, -3, -4), wrote(i, api.AccSwap, -3, -4))
			tells(t, "Swap", c, except(values, i, -4)...)
			does(t, c, add(i, 9), wrote(i, api.AccAdd, -4, 5))
			tells(t, "Add", c, except(values, i, 5)...)
		}
	}
}

// TestNoSuchCell: C2, R2: below 0, and from the number of cells on; where there are none, all.
func TestNoSuchCell(t *testing.T) {
	for _, n := range []int{0, 1, 2, limit - 1, limit} {
		c := fresh(t, n)
		for _, i := range noCells(n) {
			for _, x := range eachCall(i) {
				refuses(t, c, x, api.ErrCell)
			}
		}
		tells(t, "refused", c, make([]int64, n)...)
	}
	for _, x := range eachCall(0) {
		refuses(t, fresh(t, 0), x, api.ErrCell)
	}
}

// TestCellsThatNewDidNotGive: C2, R2: ErrArg in each call, ahead of ErrCell, and nothing is told of them.
func TestCellsThatNewDidNotGive(t *testing.T) {
	refused, _ := cells.New(-1)
	var plain cells.Cells
	for what, c := range map[string]*cells.Cells{"nil": nil, "plain": &plain, "new": new(cells.Cells), "refused": refused} {
		for _, i := range append(noCells(0), noCells(limit)...) {
			for _, x := range eachCall(i) {
				refuses(t, c, x, api.ErrArg)
			}
		}
		for _, x := range eachCall(0) {
			refuses(t, c, x, api.ErrArg)
		}
		tells(t, what, c)
	}
}

// TestOneOfThem: C7: of several Swaps of one cell with the same old, one alone wrote; those of other cells, loads, swaps that do not write and refused calls are no write between.
func TestOneOfThem(t *testing.T) {
	for _, old := range edges() {
		for first := range 4 {
			c := holding(t, old, old)
			count := 0
			for n := range 4 {
				if n == first {
					does(t, c, load(0), left(0, api.AccLoad, c.Values()[0]))
					store(1, int64(n)).on(c)
					swap(0, old+100, old).on(c)
					refuses(t, c, store(2, old), api.ErrCell)
				}
				v := old + 1 + int64((n+first)%4)
				a, e := c.Swap(0, old, v)
				if e != api.OK || a.Wrote != (n == 0) {
					t.Errorf("Swap %d of %d by %d: %+v, %d", n, old, v, a, e)
				}
				if a.Wrote {
					count++
				}
			}
			if count != 1 {
				t.Errorf("%d of the Swaps of %d wrote", count, old)
			}
			if l := c.Values(); l[0] != old+1+int64(first) {
				t.Errorf("behind the Swaps of %d: %v", old, l)
			}
		}
	}
}

// TestAllOfThem: C7: where v is old each of them wrote, and a write of old between lets another one write.
func TestAllOfThem(t *testing.T) {
	c := holding(t, 6)
	for range 4 {
		does(t, c, swap(0, 6, 6), wrote(0, api.AccSwap, 6, 6))
	}
	does(t, c, swap(0, 6, 7), wrote(0, api.AccSwap, 6, 7))
	does(t, c, swap(0, 6, 8), left(0, api.AccSwap, 7))
	does(t, c, add(0, -1), wrote(0, api.AccAdd, 7, 6))
	does(t, c, swap(0, 6, 8), wrote(0, api.AccSwap, 6, 8))
	does(t, c, swap(0, 6, 9), left(0, api.AccSwap, 8))
}
