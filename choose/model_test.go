package choose_test

import (
	"math/rand/v2"
	"slices"
	"testing"

	"rota/api"
	"rota/channel"
	"rota/choose"
)

// world is channels by the document's words: states that are looked through each time.
type world []api.ChanState

// waits tells whether one waits somewhere.
func (w world) waits(g api.Gid) bool {
	return slices.ContainsFunc(w, func(s api.ChanState) bool {
		return slices.ContainsFunc(slices.Concat(s.Senders, s.Receivers), func(x api.Waiter) bool { return x.G == g })
	})
}

// leave takes one out of all places.
func (w world) leave(g api.Gid) {
	others := func(l []api.Waiter) (out []api.Waiter) {
		for _, x := range l {
			if x.G != g {
				out = append(out, x)
			}
		}
		return out
	}
	for i := range w {
		w[i].Senders, w[i].Receivers = others(w[i].Senders), others(w[i].Receivers)
	}
}

// none tells whether a handle is no channel's, and not nil.
func (w world) none(ch int64) bool { return ch < 0 || ch > int64(len(w)) }

// send is layer 11's Send of one that waits nowhere, on a channel.
func (w world) send(ch int64, g api.Gid, number int, v int64) api.Moved {
	s := &w[ch-1]
	switch {
	case s.Closed:
		return broken()
	case len(s.Receivers) > 0:
		first := s.Receivers[0]
		w.leave(first.G)
		return passed(handed(first.G, first.Case, v))
	case len(s.Values) < s.Cap:
		s.Values = append(s.Values, v)
		return passed()
	}
	s.Senders = append(s.Senders, waiting(g, number, v))
	return api.Moved{Waits: true}
}

// recv is layer 11's Recv likewise.
func (w world) recv(ch int64, g api.Gid, number int) api.Moved {
	s := &w[ch-1]
	switch {
	case len(s.Values) > 0 && len(s.Senders) == 0:
		v := s.Values[0]
		s.Values = s.Values[1:]
		return got(v)
	case len(s.Senders) > 0:
		first := s.Senders[0]
		w.leave(first.G)
		queue := append(slices.Clone(s.Values), first.Value)
		s.Values = queue[1:]
		return got(queue[0], sent(first.G, first.Case))
	case s.Closed:
		return empty()
	}
	s.Receivers = append(s.Receivers, waiting(g, number, 0))
	return api.Moved{Waits: true}
}

// does is the one or the other, as a case says.
func (w world) does(g api.Gid, number int, p api.Pick) api.Moved {
	if p.Send {
		return w.send(p.Chan, g, number, p.Value)
	}
	return w.recv(p.Chan, g, number)
}

// selects is Select by the document's words; whether a case goes on is told by trying it on a copy.
func (w world) selects(g api.Gid, l []api.Pick, def bool, draws []uint64) (api.Chosen, api.Errno) {
	switch {
	case len(l) > 16:
		return api.Chosen{Case: -1}, 1
	case len(draws) < len(l):
		return api.Chosen{Case: -1}, 120
	case w.waits(g):
		return api.Chosen{Case: -1}, 111
	case slices.ContainsFunc(l, func(p api.Pick) bool { return w.none(p.Chan) }):
		return noChannel(), 0
	}
	for _, n := range orderOf(draws[:len(l)]) {
		if p := l[n]; p.Chan != 0 && !world(copyOf(w)).does(g, n, p).Waits {
			return went(n, w.does(g, n, p)), 0
		}
	}
	if def {
		return byDefault(), 0
	}
	for n, p := range l {
		switch {
		case p.Chan == 0:
		case p.Send:
			w[p.Chan-1].Senders = append(w[p.Chan-1].Senders, waiting(g, n, p.Value))
		default:
			w[p.Chan-1].Receivers = append(w[p.Chan-1].Receivers, waiting(g, n, 0))
		}
	}
	return blocked(), 0
}

// both carries a select out on channels and by the document's words, and holds the answers and the states against each other.
func both(t *testing.T, x *channel.Chans, w world, g api.Gid, l []api.Pick, def bool, draws []uint64) api.Chosen {
	t.Helper()
	before := copyOf(w)
	want, f := w.selects(g, l, def, draws)
	out, e := choose.Select(x, g, l, def, draws)
	if !sameChoice(out, want) || e != f {
		t.Fatalf("Select(%v, %+v, %v, %v) of %+v: %+v, %d, not %+v, %d", g, l, def, draws, before, out, e, want, f)
	}
	if state := x.State(); !sameStates(state, w) {
		t.Fatalf("Select(%v, %+v, %v, %v) of %+v: then %+v, not %+v", g, l, def, draws, before, state, w)
	}
	return out
}

// kinds is a channel in each way that matters, by goroutines of two slots; where one waits on two channels, it is the same one.
func kinds(slot int) []api.ChanState {
	h, i := api.Gid{Slot: slot, Gen: 3}, api.Gid{Slot: 5, Gen: 3}
	return []api.ChanState{
		open(0, no, no), open(1, no, no), open(2, no, no, 40), open(1, no, no, 41),
		open(0, all(waiting(h, 2, 42), waiting(i, 0, 43)), no), open(1, all(waiting(i, 3, 44)), no, 45),
		open(0, no, all(waiting(h, 1, 0), waiting(i, 4, 0))), open(3, no, all(waiting(i, 5, 0))),
		open(0, all(waiting(i, 6, 46)), all(waiting(i, 7, 0))), shut(0), shut(2, 47),
	}
}

// lists is all lists of so many of few cases.
func lists(n int) [][]api.Pick {
	out := [][]api.Pick{{}}
	for i := range n {
		var longer [][]api.Pick
		for _, l := range out {
			for _, p := range of(recv(0), recv(1), send(1, int64(60+i)), recv(2), send(2, int64(70+i)), recv(3)) {
				longer = append(longer, append(slices.Clone(l), p))
			}
		}
		out = longer
	}
	return out
}

// ended is how a select ended.
func ended(y api.Chosen) string {
	switch {
	case y.Case >= 0:
		return "went on"
	case y.Default:
		return "took the default"
	case y.Moved.Waits:
		return "waited"
	}
	return "trapped"
}

// TestAllShortSelects: S3: all selects of up to three cases, in every order, on two channels of each kind.
func TestAllShortSelects(t *testing.T) {
	done := map[string]int{}
	for _, first := range kinds(6) {
		for _, second := range kinds(7) {
			for n := range 4 {
				for _, l := range lists(n) {
					for _, draws := range everyDraws(n) {
						for _, def := range []bool{false, true} {
							w := world(copyOf([]api.ChanState{first, second}))
							done[ended(both(t, load(t, w...), w, me, l, def, draws))]++
						}
					}
				}
			}
		}
	}
	for _, what := range []string{"went on", "took the default", "waited", "trapped"} {
		if done[what] < 1000 {
			t.Errorf("%d %s: too few to tell anything", done[what], what)
		}
	}
}

// chance is a select that is drawn by chance, always the same for the same source; wrong now and then.
func chance(r *rand.Rand, channels int64) ([]api.Pick, []uint64) {
	l := make([]api.Pick, r.IntN(4))
	if r.IntN(5) == 0 {
		l = make([]api.Pick, r.IntN(18))
	}
	for i := range l {
		l[i] = api.Pick{Send: r.IntN(2) == 0, Chan: r.Int64N(channels + 1), Value: r.Int64()}
		if r.IntN(60) == 0 {
			l[i].Chan = r.Int64() - r.Int64()
		}
	}
	draws := make([]uint64, len(l)+r.IntN(3))
	for i := range draws {
		draws[i] = r.Uint64()
	}
	if r.IntN(40) == 0 {
		draws = draws[:r.IntN(len(draws)+1)]
	}
	return l, draws
}

// TestLongWalks: S3: selects by chance, one behind the other, on few and on many channels, by few and by many goroutines; some of these leave, and channels are closed.
func TestLongWalks(t *testing.T) {
	for seed, at := range []struct {
		channels int64
		names    int
	}{{1, 2}, {1, 8}, {2, 4}, {2, 30}, {3, 9}, {5, 5}, {5, 40}, {9, 12}, {12, 60}} {
		r := rand.New(rand.NewPCG(uint64(seed), 12))
		var x *channel.Chans
		var w world
		done := map[bool]int{}
		for n := range 5000 {
			// All are closed some time: a new set begins.
			if n%250 == 0 {
				w = nil
				for range at.channels {
					w = append(w, open(r.IntN(4), no, no))
				}
				x = load(t, w...)
			}
			g := api.Gid{Slot: r.IntN(at.names), Gen: r.IntN(2)}
			switch what := r.IntN(60); {
			case what == 0:
				ch := 1 + r.Int64N(at.channels)
				x.Close(ch)
				w = x.State()
			case what < 8:
				x.Leave(g)
				w.leave(g)
			default:
				l, draws := chance(r, at.channels)
				y := both(t, x, w, g, l, r.IntN(5) == 0, draws)
				done[y.Case >= 0]++
			}
			if n%100 == 99 {
				x = load(t, x.State()...)
			}
		}
		if done[true] < 500 || done[false] < 500 {
			t.Errorf("%v: %v: too few to tell anything", at, done)
		}
	}
}
