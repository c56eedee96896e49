package table_test

import (
	"math/big"
	"math/rand/v2"
	"slices"
	"testing"

	"rota/api"
)

// model is a table place by place: of each P at each place of a frame who has it, how long that one can run from there on, and whether its slot ends there.
type model struct {
	frame uint64
	at    [][]atP
	slots []api.Slot
}

// modelOf makes it by the document's words.
func modelOf(tab api.Table) model {
	m := model{frame: tab.Frame}
	for _, l := range tab.Procs {
		at := make([]atP, tab.Frame)
		for i := range at {
			at[i].owner = -1
		}
		for _, s := range l {
			for i := range s.Window.Length {
				place := s.Window.Start + i
				at[place] = atP{owner: s.Domain, ends: i == s.Window.Length-1}
				for u := place; u < s.Window.Start+s.Window.Length-s.Pad; u++ {
					at[place].left++
				}
			}
		}
		m.at = append(m.at, at)
		m.slots = append(m.slots, l...)
	}
	return m
}

// has is the Ps that a domain has at a tick.
func (m model) has(now uint64, domain int) (l []int) {
	for p, at := range m.at {
		if at[now%m.frame].owner == domain {
			l = append(l, p)
		}
	}
	return l
}

// ticks counts the ticks below n, a few tick by tick, many by whole frames.
func (m model) ticks(n uint64, domain int) uint64 {
	count := func(n uint64) (sum uint64) {
		for now := range n {
			if len(m.has(now, domain)) > 0 {
				sum++
			}
		}
		return sum
	}
	if n < 4*m.frame {
		return count(n)
	}
	all := new(big.Int).SetUint64(n / m.frame)
	all.Mul(all, new(big.Int).SetUint64(count(m.frame)))
	return all.Add(all, new(big.Int).SetUint64(count(n%m.frame))).Uint64()
}

// canRun is on how many Ps a domain can run at a tick.
func (m model) canRun(now uint64, domain int) (n uint64) {
	for _, at := range m.at {
		if x := at[now%m.frame]; x.owner == domain && x.left > 0 {
			n++
		}
	}
	return n
}

// share and longest look at all slots.
func (m model) share(domain int) (n uint64) {
	for place := range m.frame {
		n += m.canRun(place, domain)
	}
	return n
}
func (m model) longest(domain int) (n uint64) {
	for _, at := range m.at {
		for _, x := range at {
			if x.owner == domain {
				n = max(n, x.left)
			}
		}
	}
	return n
}

// begins tells whether a slot of a domain that is long enough begins at a place.
func (m model) begins(place uint64, domain int, long uint64) bool {
	return slices.ContainsFunc(m.slots, func(s api.Slot) bool {
		return s.Domain == domain && s.Window.Start == place && s.Window.Length-s.Pad >= long
	})
}

// wait goes on from each tick of a frame till such a slot begins.
func (m model) wait(domain int, long uint64) way {
	x := way{}
	for at := range m.frame {
		for now := at; now < at+m.frame; now++ {
			if m.begins(now%m.frame, domain, long) {
				x = way{max(x.most, now-at), true}
				break
			}
		}
	}
	return x
}

// supply adds up n ticks from each tick of a frame on.
func (m model) supply(domain int, n uint64) uint64 {
	least := last
	for at := range m.frame {
		sum := uint64(0)
		for now := at; now < at+n; now++ {
			sum += m.canRun(now, domain)
		}
		least = min(least, sum)
	}
	return least
}

// holds holds all that is told of a table against its model, of the domains below ds, and of ticks up to a bit more than some frames.
func holds(t *testing.T, tab api.Table, ds int, some uint64) {
	t.Helper()
	m := modelOf(tab)
	if x := check(tab, ds); x != fine {
		t.Fatalf("%+v: Check: %+v", tab, x)
	}
	for now := range 2*tab.Frame + 1 {
		for p := range m.at {
			if x := ask(t, tab, now, p); x != m.at[p][now%tab.Frame] {
				t.Fatalf("%+v: tick %d, P %d: %+v, not %+v", tab, now, p, x, m.at[p][now%tab.Frame])
			}
		}
		for d := range ds {
			if l := has(t, tab, now, d); !slices.Equal(l, m.has(now, d)) {
				t.Fatalf("%+v: Has(%d, %d): %v", tab, now, d, l)
			}
		}
	}
	for d := range ds {
		holdsOf(t, tab, m, d, some)
	}
}

// holdsOf does so of a domain.
func holdsOf(t *testing.T, tab api.Table, m model, d int, some uint64) {
	t.Helper()
	if x, y := share(t, tab, d), longest(t, tab, d); x != m.share(d) || y != m.longest(d) {
		t.Fatalf("%+v, domain %d: Share %d, Longest %d, not %d, %d", tab, d, x, y, m.share(d), m.longest(d))
	}
	for _, n := range []uint64{last, last - 1, last - tab.Frame, 1 << 63, 1e15} {
		if x := ticks(t, tab, n, d); x != m.ticks(n, d) {
			t.Fatalf("%+v: Ticks(%d, %d): %d, not %d", tab, n, d, x, m.ticks(n, d))
		}
	}
	for n := range some*tab.Frame + 2 {
		if x := ticks(t, tab, n, d); x != m.ticks(n, d) {
			t.Fatalf("%+v: Ticks(%d, %d): %d, not %d", tab, n, d, x, m.ticks(n, d))
		}
		if x := supplied(t, tab, d, n); x != m.supply(d, n) {
			t.Fatalf("%+v: Supply(%d, %d): %d, not %d", tab, d, n, x, m.supply(d, n))
		}
	}
	for long := range tab.Frame + 2 {
		if x := wait(t, tab, d, long); x != m.wait(d, long) {
			t.Fatalf("%+v: Wait(%d, %d): %v, not %v", tab, d, long, x, m.wait(d, long))
		}
	}
}

// rows is all that a P can have from a place on: slots of the domains 0 and 1 of all lengths and pads, and gaps.
func rows(from, frame uint64) [][]api.Slot {
	if from == frame {
		return [][]api.Slot{nil}
	}
	l := rows(from+1, frame)
	for length := uint64(1); length <= frame-from; length++ {
		rest := rows(from+length, frame)
		for pad := range length {
			for d := range 2 {
				for _, r := range rest {
					l = append(l, append(on(slot(d, from, length, pad)), r...))
				}
			}
		}
	}
	return l
}

// U2 to U4a: all tables of one P and short frames.
func TestAllTablesOfOneP(t *testing.T) {
	for frame := uint64(1); frame <= 4; frame++ {
		l := rows(0, frame)
		for _, p := range l {
			holds(t, of(frame, p), 2, 3)
		}
	}
	if n := len(rows(0, 4)); n != 249 {
		t.Errorf("%d rows of 4 ticks, not 249", n)
	}
}

// U2 to U4a: all tables of two Ps and short frames.
func TestAllTablesOfTwoPs(t *testing.T) {
	for frame := uint64(1); frame <= 3; frame++ {
		l := rows(0, frame)
		for _, p := range l {
			for _, q := range l {
				holds(t, of(frame, p, q), 2, 1)
			}
		}
	}
}

// U2 to U4a: tables by their edges, and by chance.
func TestTablesByChance(t *testing.T) {
	for _, tab := range someTables() {
		holds(t, tab, domains, 2)
	}
	r := rand.New(rand.NewPCG(16, 2))
	for range 150 {
		holds(t, drawn(r, 1+r.Uint64N(24), 1+r.IntN(6), 3, 1+r.Uint64N(9)), 3, 3)
	}
}

// U4a: long frames with many slots, held against sums from each tick on.
func TestSupplyOfLongFrames(t *testing.T) {
	r := rand.New(rand.NewPCG(16, 3))
	for range 20 {
		tab := drawn(r, 1+r.Uint64N(3000), 1+r.IntN(9), 2, 1+r.Uint64N(200))
		m := modelOf(tab)
		below := []uint64{0} // on how many Ps it can run at the places below one, over two frames
		for now := range 2 * tab.Frame {
			below = append(below, below[now]+m.canRun(now, 0))
		}
		for range 30 {
			n := r.Uint64N(supply)
			rest, least := n%tab.Frame, last
			for at := range tab.Frame {
				least = min(least, below[at+rest]-below[at])
			}
			if x := supplied(t, tab, 0, n); x != n/tab.Frame*below[tab.Frame]+least {
				t.Fatalf("%+v: Supply(0, %d): %d, not %d", tab, n, x, n/tab.Frame*below[tab.Frame]+least)
			}
		}
	}
}
