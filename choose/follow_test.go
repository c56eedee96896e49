package choose_test

import (
	"math/rand/v2"
	"slices"
	"testing"

	"rota/api"
	"rota/channel"
	"rota/choose"
)

// places is how many places one has in a state.
func places(l []api.ChanState, g api.Gid) int {
	n := 0
	for _, s := range l {
		for _, w := range slices.Concat(s.Senders, s.Receivers) {
			if w.G == g {
				n++
			}
		}
	}
	return n
}

// TestWokenByTheFirst: S5, S6: where nothing goes on, the first that wakes any of the cases takes the select out of all others, and nothing wakes it again.
func TestWokenByTheFirst(t *testing.T) {
	woken := 0
	for _, capacity := range []int{0, 1} {
		for _, l := range slices.Concat(lists(1), lists(2), lists(3)) {
			for by := range 6 {
				// The second channel is full, if it can be: a send there waits too.
				state := []api.ChanState{open(0, no, no), open(capacity, no, no)}
				x := load(t, state...)
				x.Send(2, a, 50)
				x.Leave(a)
				y, _ := choose.Select(x, me, l, false, zeros(len(l)))
				if !y.Moved.Waits {
					continue
				}
				first := wakes(x, by)
				for _, w := range first {
					woken++
					holdsCase(t, l, by, w)
				}
				if len(first) == 0 {
					continue
				}
				if x.Waits(me) || places(x.State(), me) != 0 {
					t.Fatalf("%+v: woken, and waits still: %+v", l, x.State())
				}
				for more := range 6 {
					if again := wakes(x, more); len(again) != 0 {
						t.Fatalf("%+v: woken again: %+v", l, again)
					}
				}
			}
		}
	}
	if woken < 200 {
		t.Errorf("%d were woken: too few to tell anything", woken)
	}
}

// wakes does one of six things with two channels, by another goroutine each time, which leaves again if it waits: how it wakes me.
func wakes(x *channel.Chans, by int) (out []api.Woken) {
	ch, other := int64(1+by%2), api.Gid{Slot: 100 + by}
	var m api.Moved
	switch by / 2 {
	case 0:
		m, _ = x.Send(ch, other, 80)
	case 1:
		m, _ = x.Recv(ch, other)
	default:
		m = x.Close(ch)
	}
	x.Leave(other)
	for _, w := range m.Woken {
		if w.G == me {
			out = append(out, w)
		}
	}
	return out
}

// holdsCase holds what one is told that was woken against its cases: the case is the first there that fits what was done.
func holdsCase(t *testing.T, l []api.Pick, by int, w api.Woken) {
	t.Helper()
	ch := int64(1 + by%2)
	want := slices.IndexFunc(l, func(p api.Pick) bool { return p.Chan == ch && p.Send == (by/2 == 1) })
	told := api.Woken{G: me, Case: want, Ok: true}
	switch {
	case by/2 == 0:
		told.Value = 80
	case by/2 == 2 && want >= 0:
		told.Ok = false
	case by/2 == 2:
		told.Case = slices.IndexFunc(l, func(p api.Pick) bool { return p.Chan == ch })
		told.Ok, told.Trap = false, api.TrapSend
	}
	if w != told {
		t.Fatalf("%+v, by %d: woken: %+v, not %+v", l, by, w, told)
	}
}

// record is selects by many goroutines, and what came of each.
type record struct {
	t       *testing.T
	x       *channel.Chans
	pending map[api.Gid][]api.Pick // of each that waits its cases
	next    int64                  // the last value that a case had
	sent    map[int64]int          // how often it was told that a value was sent
	moved   map[int64]int          // how often it was received
	ended   int
}

// tell notes that a case of a select was carried out, as it was told.
func (r *record) tell(p api.Pick, value int64, ok bool) {
	r.ended++
	switch {
	case p.Send && ok:
		r.sent[p.Value]++
	case !p.Send && ok:
		r.moved[value]++
	}
}

// wake notes those that were woken: each of them waited, and waits nowhere more.
func (r *record) wake(l []api.Woken) {
	r.t.Helper()
	for _, w := range l {
		cases, waited := r.pending[w.G]
		if !waited || w.Case < 0 || w.Case >= len(cases) || r.x.Waits(w.G) {
			r.t.Fatalf("woken: %+v, whose cases are %+v", w, cases)
		}
		delete(r.pending, w.G)
		r.tell(cases[w.Case], w.Value, w.Ok)
	}
}

// selects lets one select, by cases each of which has a value of its own.
func (r *record) selects(g api.Gid, l []api.Pick, def bool, draws []uint64) {
	r.t.Helper()
	for i := range l {
		r.next++
		l[i].Value = r.next
	}
	y, e := choose.Select(r.x, g, l, def, draws)
	_, waited := r.pending[g]
	switch {
	case waited:
		if e != api.ErrWaits {
			r.t.Fatalf("Select of one that waits: %+v, %d", y, e)
		}
	case e != api.OK:
		r.t.Fatalf("Select(%+v): %+v, %d", l, y, e)
	case y.Case >= 0:
		if y.Moved.Waits || r.x.Waits(g) {
			r.t.Fatalf("Select(%+v): it goes on and waits: %+v", l, y)
		}
		r.wake(y.Moved.Woken)
		r.tell(l[y.Case], y.Moved.Value, y.Moved.Ok)
	case y.Moved.Waits && r.x.Waits(g):
		r.pending[g] = l
	}
}

// holds holds the record against S5 and S6: whoever waits has all its places, and no one else any; and what was told to be sent was received, or is held, once, and nothing else.
func (r *record) holds() {
	r.t.Helper()
	state := r.x.State()
	there := map[int64]int{}
	all := 0
	for _, s := range state {
		for _, v := range s.Values {
			there[v]++
		}
		all += len(s.Senders) + len(s.Receivers)
	}
	for g, l := range r.pending {
		n := 0
		for _, p := range l {
			if p.Chan != 0 {
				n++
			}
		}
		if places(state, g) != n {
			r.t.Fatalf("%v waits in %d places, not %d", g, places(state, g), n)
		}
		all -= n
	}
	if all != 0 {
		r.t.Fatalf("others wait in %d places", all)
	}
	for v, n := range r.sent {
		if n != 1 || there[v]+r.moved[v] != 1 {
			r.t.Fatalf("the value %d was sent %d times, received %d times, and is held %d times", v, n, r.moved[v], there[v])
		}
	}
	if len(r.moved)+len(there) != len(r.sent) {
		r.t.Fatalf("%d values were sent, %d received, and %d are held", len(r.sent), len(r.moved), len(there))
	}
}

// TestOneOfThem: S5, S6: selects of many goroutines, and now and then a Close: of the cases of each one alone is carried out.
func TestOneOfThem(t *testing.T) {
	for seed := range uint64(20) {
		draw := rand.New(rand.NewPCG(seed, 6))
		channels := 1 + int64(seed%5)
		r := &record{t: t, x: channel.New(), pending: map[api.Gid][]api.Pick{}, sent: map[int64]int{}, moved: map[int64]int{}}
		for range channels {
			r.x.Make(draw.Int64N(3))
		}
		for n := range 800 {
			l := make([]api.Pick, draw.IntN(5))
			draws := make([]uint64, len(l))
			for i := range l {
				l[i] = api.Pick{Send: draw.IntN(2) == 0, Chan: draw.Int64N(channels + 1)}
				draws[i] = draw.Uint64()
			}
			r.selects(api.Gid{Slot: draw.IntN(12)}, l, draw.IntN(6) == 0, draws)
			r.holds()
			if n%200 == 199 {
				r.wake(r.x.Close(1 + draw.Int64N(channels)).Woken)
				r.holds()
			}
		}
		if r.ended < 100 || len(r.sent) < 30 {
			t.Errorf("%d selects went on, %d values were sent: too few to tell anything", r.ended, len(r.sent))
		}
	}
}
