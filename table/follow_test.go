package table_test

import (
	"math/rand/v2"
	"slices"
	"testing"

	"rota/api"
)

// U5, U6, U7: what follows is asked of these tables, short ones and long ones.
func followTables() []api.Table {
	r := rand.New(rand.NewPCG(16, 4))
	l := someTables()
	for range 5 {
		l = append(l, drawn(r, 500+r.Uint64N(500), 1+r.IntN(8), domains, 1+r.Uint64N(60)))
	}
	return l
}

// U5: at any tick a P has at most one domain: what Has tells of all domains together is each P once, but those that nobody has.
func TestOneOwner(t *testing.T) {
	for _, tab := range followTables() {
		for _, from := range []uint64{0, 12345, last - tab.Frame + 1} {
			for i := range tab.Frame {
				var all []int
				for d := range domains {
					all = append(all, has(t, tab, from+i, d)...)
				}
				slices.Sort(all)
				var want []int
				for p := range tab.Procs {
					if ask(t, tab, from+i, p).owner >= 0 {
						want = append(want, p)
					}
				}
				if !slices.Equal(all, want) {
					t.Fatalf("%+v, tick %d: all domains have %v, owned are %v", tab, from+i, all, want)
				}
			}
		}
	}
}

// U6: Owner, Left, Ends and Has are the same one frame later.
func TestFrameByFrame(t *testing.T) {
	for _, tab := range followTables() {
		for _, from := range []uint64{0, 987654321, last - 2*tab.Frame + 1} {
			for now := from; now < from+tab.Frame; now++ {
				for p := range tab.Procs {
					if x, y := ask(t, tab, now, p), ask(t, tab, now+tab.Frame, p); x != y {
						t.Fatalf("%+v, P %d: %+v at %d, %+v a frame later", tab, p, x, now, y)
					}
				}
				for d := range 3 {
					if x, y := has(t, tab, now, d), has(t, tab, now+tab.Frame, d); !slices.Equal(x, y) {
						t.Fatalf("%+v: Has(%d, %d): %v, and %v a frame later", tab, now, d, x, y)
					}
				}
			}
		}
	}
}

// U7: the ticks of a frame at which a domain owns a P are as many as its windows there are long, wherever the frame's ticks begin.
func TestTicksOfAFrame(t *testing.T) {
	for _, tab := range followTables() {
		for p, l := range tab.Procs {
			var long, owned, later [domains]uint64
			for _, s := range l {
				long[s.Domain] += s.Window.Length
			}
			for now := range tab.Frame {
				if d := ask(t, tab, now, p).owner; d >= 0 {
					owned[d]++
				}
				if d := ask(t, tab, now+7, p).owner; d >= 0 {
					later[d]++
				}
			}
			if owned != long || later != long {
				t.Fatalf("%+v, P %d: owned %v, and %v from 7 on, windows of %v", tab, p, owned, later, long)
			}
		}
	}
}

// U7: Wait is below Frame.
func TestWaitIsBelowFrame(t *testing.T) {
	for _, tab := range followTables() {
		for d := range domains {
			for long := range longest(t, tab, d) + 1 {
				if x := wait(t, tab, d, long); x.most >= tab.Frame {
					t.Fatalf("%+v: Wait(%d, %d): %v", tab, d, long, x)
				}
			}
		}
	}
}

// U7: Supply of whole frames is as many times Share; of two numbers together it is at least that of both.
func TestSupplyAddsUp(t *testing.T) {
	r := rand.New(rand.NewPCG(16, 5))
	for _, tab := range followTables() {
		for d := range 3 {
			for _, k := range []uint64{0, 1, 2, 3, 1000, supply / tab.Frame} {
				if x, y := supplied(t, tab, d, k*tab.Frame), k*share(t, tab, d); x != y {
					t.Fatalf("%+v, domain %d: Supply of %d frames: %d, Share as many times: %d", tab, d, k, x, y)
				}
			}
			for _, most := range []uint64{tab.Frame + 1, 3 * tab.Frame, supply / 2} {
				for range 40 {
					n, m := r.Uint64N(most), r.Uint64N(most)
					if x, y, z := supplied(t, tab, d, n+m), supplied(t, tab, d, n), supplied(t, tab, d, m); x < y+z {
						t.Fatalf("%+v, domain %d: Supply(%d): %d, of %d: %d, of %d: %d", tab, d, n+m, x, n, y, m, z)
					}
				}
			}
		}
	}
}
