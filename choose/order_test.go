package choose_test

import (
	"math"
	"math/rand/v2"
	"slices"
	"testing"

	"rota/api"
	"rota/choose"
)

// TestExampleOrders: the chapter's first example.
func TestExampleOrders(t *testing.T) {
	orders(t, drawn(0, 0, 0), 2, 0, 1)
	orders(t, drawn(0, 1, 2), 0, 1, 2)
	orders(t, drawn(7, 6), 1, 0)
	draws(t, []int{2, 0, 1}, 0, 0, 0)
	noDraws(t, []int{1, 1}, api.ErrPerm)
}

// TestOrderNumbers: S1: 0 to 16 cases, and no other number of them, however many draws there are.
func TestOrderNumbers(t *testing.T) {
	orders(t, nil)
	orders(t, drawn())
	orders(t, drawn(0), 0)
	orders(t, drawn(greatest), 0)
	for n := range most + 1 {
		l, e := choose.Order(n, zeros(n))
		if len(l) != n || e != api.OK {
			t.Errorf("Order of %d cases: %v, %d", n, l, e)
		}
	}
	for _, n := range []int{-1, -2, -most, most + 1, most + 2, 1 << 32, 1<<32 + 1, math.MaxInt, math.MinInt} {
		for _, given := range []int{0, 1, most, most + 1, 40} {
			noOrder(t, n, zeros(given), api.ErrArg)
		}
		noOrder(t, n, nil, api.ErrArg)
	}
}

// TestOrderDraws: S1: fewer draws than cases are refused; more are not looked at.
func TestOrderDraws(t *testing.T) {
	long := make([]uint64, 40)
	for i := range long {
		long[i] = uint64(i*i*i + 3)
	}
	for n := 1; n <= most; n++ {
		for fewer := range n {
			noOrder(t, n, long[:fewer], api.ErrDraws)
			noOrder(t, n, zeros(fewer), api.ErrDraws)
		}
		noOrder(t, n, nil, api.ErrDraws)
		for more := n; more <= len(long); more++ {
			orders(t, long[:more], orderOf(long[:n])...)
		}
	}
	orders(t, drawn(1, 2, 3))
	orders(t, drawn(0, 0, greatest), 1, 0)
}

// TestOrderPlaces: S1: each case comes to the place that is drawn, and what stood there behind all others.
func TestOrderPlaces(t *testing.T) {
	for n := 1; n <= most; n++ {
		for i := range n {
			own := make([]uint64, n)
			for k := range own {
				own[k] = uint64(k)
			}
			for j := range i + 1 {
				want := make([]int, n)
				for k := range want {
					want[k] = k
				}
				want[i], want[j] = want[j], want[i]
				own[i] = uint64(j)
				orders(t, own, want...)
				own[i] = uint64(j + 3*(i+1))
				orders(t, own, want...)
			}
		}
	}
}

// TestOrderEdges: S1: draws of 0, of i, of i + 1, of the greatest number, and those beside it.
func TestOrderEdges(t *testing.T) {
	rules := []func(i int) uint64{
		func(int) uint64 { return 0 },
		func(i int) uint64 { return uint64(i) },
		func(i int) uint64 { return uint64(i + 1) },
		func(i int) uint64 { return uint64(i + 2) },
		func(int) uint64 { return greatest },
		func(int) uint64 { return greatest - 1 },
		func(i int) uint64 { return greatest - uint64(i) },
		func(int) uint64 { return 1 << 63 },
		func(int) uint64 { return 1<<63 - 1 },
		func(int) uint64 { return 1 << 32 },
		func(int) uint64 { return 1<<32 - 1 },
	}
	for n := range most + 1 {
		for i, rule := range rules {
			l := make([]uint64, n)
			for k := range l {
				l[k] = rule(k)
			}
			orders(t, l, orderOf(l)...)
			// One number by another rule, among those of this one.
			for k := range l {
				l[k] = rules[(i+k+1)%len(rules)](k)
				orders(t, l, orderOf(l)...)
				l[k] = rule(k)
			}
		}
	}
	// 2^64 - 1 is 0 modulo 3, and the most that can be modulo 2 and 4.
	orders(t, drawn(greatest, greatest, greatest), 2, 1, 0)
	orders(t, drawn(greatest, greatest, greatest, greatest), 2, 1, 0, 3)
	orders(t, drawn(0, 1, 2, 0), 3, 1, 2, 0)
	orders(t, drawn(1, 2, 3, 4), 3, 0, 1, 2)
}

// TestEachOrderOnce: S4: of up to seven cases: different numbers, the i-th at most i, make different orders; each order comes of some, and Draws tells these.
func TestEachOrderOnce(t *testing.T) {
	for n := range 8 {
		made := map[[most]int]int{}
		for _, l := range everyDraws(n) {
			order, e := choose.Order(n, l)
			if !slices.Equal(order, orderOf(l)) || e != api.OK {
				t.Fatalf("Order(%d, %v): %v, %d, not %v", n, l, order, e, orderOf(l))
			}
			draws(t, order, l...)
			var key [most]int
			copy(key[:], order)
			made[key]++
		}
		every := everyOrder(n)
		for _, order := range every {
			var key [most]int
			copy(key[:], order)
			if made[key] != 1 {
				t.Errorf("the order %v comes %d times", order, made[key])
			}
		}
		if len(made) != len(every) {
			t.Errorf("%d cases: %d orders, not %d", n, len(made), len(every))
		}
	}
}

// TestDrawsOfEveryOrder: S2: of every order of up to five cases the numbers that make it, found by a way of its own.
func TestDrawsOfEveryOrder(t *testing.T) {
	draws(t, nil)
	draws(t, []int{})
	draws(t, []int{0}, 0)
	draws(t, []int{0, 1}, 0, 1)
	draws(t, []int{1, 0}, 0, 0)
	for n := range 6 {
		for _, order := range everyOrder(n) {
			want := drawsOf(t, order)
			draws(t, order, want...)
			orders(t, want, order...)
		}
	}
}

// TestDrawsOfManyCases: S2, S4: orders of up to 16 cases, there and back.
func TestDrawsOfManyCases(t *testing.T) {
	r := rand.New(rand.NewPCG(12, 1))
	for n := range most + 1 {
		for range 300 {
			order := r.Perm(n)
			l, e := choose.Draws(order)
			if len(l) != n || e != api.OK || !slices.Equal(orderOf(l), order) {
				t.Fatalf("Draws(%v): %v, %d", order, l, e)
			}
			for i, x := range l {
				if x > uint64(i) {
					t.Fatalf("Draws(%v): %v: the %d-th is above %d", order, l, i, i)
				}
			}
			orders(t, l, order...)
			any, least := make([]uint64, n), make([]uint64, n)
			for i := range any {
				any[i] = r.Uint64()
				least[i] = any[i] % uint64(i+1)
			}
			orders(t, any, orderOf(any)...)
			draws(t, orderOf(any), least...)
		}
	}
}

// TestDrawsOfNoOrder: S2: a number twice, one below 0, one too great, one left out, in each place of each length.
func TestDrawsOfNoOrder(t *testing.T) {
	r := rand.New(rand.NewPCG(12, 2))
	for n := 1; n <= most; n++ {
		for range 5 {
			order := r.Perm(n)
			for at, was := range order {
				for _, wrong := range []int{-1, -2, n, n + 1, most, -was - 1, was + 1<<32, was - 1<<32, math.MaxInt, math.MinInt} {
					if wrong < 0 || wrong >= n {
						order[at] = wrong
						noDraws(t, order, api.ErrPerm)
					}
				}
				for other := range n {
					if other != was {
						order[at] = other
						noDraws(t, order, api.ErrPerm)
					}
				}
				order[at] = was
			}
			if _, e := choose.Draws(order); e != api.OK {
				t.Errorf("Draws(%v): %d", order, e)
			}
		}
	}
	for _, order := range [][]int{{1}, {-1}, {2, 1}, {1, 2}, {0, 2}, {0, 0}, {1, 2, 3}, {0, 1, 3}, {2, 2, 2}, {0, 1, 1, 2}} {
		noDraws(t, order, api.ErrPerm)
	}
}

// TestDrawsOfTooMany: S2: more than 16 are ErrArg, ahead of ErrPerm.
func TestDrawsOfTooMany(t *testing.T) {
	for _, n := range []int{most + 1, most + 2, 100} {
		each := make([]int, n)
		for i := range each {
			each[i] = n - 1 - i
		}
		noDraws(t, each, api.ErrArg)
		noDraws(t, make([]int, n), api.ErrArg)
		each[3] = -1
		noDraws(t, each, api.ErrArg)
	}
	noDraws(t, make([]int, most), api.ErrPerm)
}

// TestEveryListOfFewNumbers: S2: all lists of up to four numbers from -1 to 4: just the orders have draws.
func TestEveryListOfFewNumbers(t *testing.T) {
	for n := range 5 {
		every := everyOrder(n)
		lists := 1
		for range n {
			lists *= 6
		}
		for code := range lists {
			l := make([]int, n)
			for i := range l {
				l[i] = code%6 - 1
				code /= 6
			}
			if slices.ContainsFunc(every, func(x []int) bool { return slices.Equal(x, l) }) {
				draws(t, l, drawsOf(t, l)...)
			} else {
				noDraws(t, l, api.ErrPerm)
			}
		}
	}
}
