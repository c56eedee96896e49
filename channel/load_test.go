package channel_test

import (
	"math"
	"slices"
	"testing"

	"rota/api"
	"rota/channel"
)

// refusesState asks Load for ErrChans.
func refusesState(t *testing.T, what string, l ...api.ChanState) {
	t.Helper()
	was := copyOf(l)
	if x, e := channel.Load(l); x != nil || e != api.ErrChans {
		t.Errorf("%s: Load(%+v): %v, %d, not %d", what, l, x, e, api.ErrChans)
	}
	if !sameStates(l, was) {
		t.Errorf("%s: the state that was refused has changed: %+v, not %+v", what, l, was)
	}
}

// TestLoad: H1: states that may be are told again.
func TestLoad(t *testing.T) {
	for _, at := range []struct {
		what string
		s    api.ChanState
	}{
		{"nothing", open(0, no, no)},
		{"empty lists", api.ChanState{Cap: 1, Values: []int64{}, Senders: all(), Receivers: all()}},
		{"the greatest capacity", open(most, no, no)},
		{"as many values as may be", open(most, no, no, numbers(-5, most)...)},
		{"fewer values than may be", open(3, no, no, math.MaxInt64, math.MinInt64)},
		{"a sender, nothing to hold", open(0, all(waiting(a, 0, 5)), no)},
		{"senders, full", open(2, all(waiting(a, 0, 5), waiting(b, 3, 0), waiting(c, -1, math.MinInt64)), no, 1, 2)},
		{"a receiver, nothing to hold", open(0, no, all(waiting(a, 0, 0)))},
		{"receivers, empty", open(2, no, all(waiting(a, 0, 0), waiting(b, math.MaxInt, 0), waiting(c, math.MinInt, 0)))},
		{"a sender in several places", open(0, all(waiting(a, 0, 5), waiting(b, 0, 6), waiting(a, 1, 7), waiting(a, 1, 7)), no)},
		{"a receiver in several places", open(0, no, all(waiting(a, 0, 0), waiting(b, 0, 0), waiting(a, 1, 0), waiting(a, 1, 0)))},
		{"one that does both", open(0, all(waiting(a, 0, 5)), all(waiting(a, 1, 0)))},
		{"one that does both, several times", open(0, all(waiting(a, 0, 5), waiting(a, 3, 6)), all(waiting(a, 1, 0), waiting(a, 2, 0)))},
		{"odd names", open(0, all(waiting(api.Gid{}, 0, 5), waiting(api.Gid{Slot: -1, Gen: -1}, 0, 5)), no)},
		{"closed, nothing to hold", shut(0)},
		{"closed, empty", shut(most)},
		{"closed, values", shut(3, 1, 2)},
		{"closed, full", shut(3, 1, 2, 0)},
	} {
		tells(t, at.what, load(t, at.s), at.s)
		tells(t, at.what+", behind another one", load(t, open(1, no, no, 5), at.s), open(1, no, no, 5), at.s)
	}
	tells(t, "no channels", load(t))
	tells(t, "an empty list", load(t, []api.ChanState{}...))
}

// TestLoadOfSelects: H1: a goroutine may wait on several channels, to send here and to receive there.
func TestLoadOfSelects(t *testing.T) {
	l := []api.ChanState{
		open(0, all(waiting(a, 0, 5), waiting(b, 1, 6)), no),
		open(1, no, all(waiting(b, 0, 0), waiting(a, 1, 0))),
		open(1, all(waiting(a, 2, 7)), no, 3),
		open(0, all(waiting(b, 2, 3)), all(waiting(b, 3, 0))),
	}
	x := load(t, l...)
	tells(t, "selects", x, l...)
	leaves(t, x, b, 4)
	leaves(t, x, a, 3)
	tells(t, "selects that left", x, open(0, no, no), open(1, no, no), open(1, no, no, 3), open(0, no, no))
}

// TestLoadOfWrongStates: H1: ErrChans, by each thing that may not be, whichever channel it is.
func TestLoadOfWrongStates(t *testing.T) {
	sender, receiver := all(waiting(a, 0, 5)), all(waiting(b, 0, 0))
	for _, at := range []struct {
		what string
		s    api.ChanState
	}{
		{"a capacity below 0", open(-1, no, no)},
		{"the least capacity", open(math.MinInt, no, no)},
		{"a capacity one above MaxBuffer", open(most+1, no, no)},
		{"the greatest number", open(math.MaxInt, no, no)},
		{"closed, a capacity below 0", shut(-1)},
		{"closed, a capacity above MaxBuffer", shut(most + 1)},
		{"a value, nothing to hold", open(0, no, no, 1)},
		{"one value too many", open(2, no, no, 1, 2, 3)},
		{"one value too many, a sender", open(2, sender, no, 1, 2, 3)},
		{"one value too many, closed", shut(2, 1, 2, 3)},
		{"one value too many for all", open(most, no, no, numbers(1, most+1)...)},
		{"as many values as above MaxBuffer", open(most+1, no, no, numbers(1, most+1)...)},
		{"a sender, empty", open(2, sender, no)},
		{"a sender, room for one", open(2, sender, no, 1)},
		{"a receiver, a value", open(2, no, receiver, 1)},
		{"a receiver, a value of 0", open(2, no, receiver, 0)},
		{"a receiver, full", open(1, no, receiver, 1)},
		{"closed, a sender", api.ChanState{Closed: true, Senders: sender}},
		{"closed, full, a sender", api.ChanState{Cap: 1, Values: []int64{1}, Closed: true, Senders: sender}},
		{"closed, a receiver", api.ChanState{Closed: true, Receivers: receiver}},
		{"closed, empty, a receiver", api.ChanState{Cap: 1, Closed: true, Receivers: receiver}},
		{"closed, one that does both", api.ChanState{Closed: true, Senders: sender, Receivers: all(waiting(a, 1, 0))}},
		{"a receiver with a value", open(0, no, all(waiting(a, 0, 1)))},
		{"a later receiver with a value", open(1, no, all(waiting(a, 0, 0), waiting(b, 0, 0), waiting(c, 0, -1)))},
		{"one that does both, with a value", open(0, sender, all(waiting(a, 0, 5)))},
		{"a sender and a receiver", open(0, sender, receiver)},
		{"one of the same slot", open(0, all(waiting(b, 0, 5)), all(waiting(c, 0, 0)))},
		{"one of the same generation", open(0, all(waiting(a, 0, 5)), all(waiting(b, 0, 0)))},
		{"one that does both, and a sender behind it", open(0, all(waiting(a, 0, 5), waiting(b, 0, 5)), all(waiting(a, 1, 0)))},
		{"one that does both, and a sender ahead of it", open(0, all(waiting(b, 0, 5), waiting(a, 0, 5)), all(waiting(a, 1, 0)))},
		{"one that does both, and a receiver behind it", open(0, sender, all(waiting(a, 1, 0), waiting(b, 0, 0)))},
		{"one that does both, and a receiver ahead of it", open(0, sender, all(waiting(b, 1, 0), waiting(a, 0, 0)))},
		{"two that do both", open(0, all(waiting(a, 0, 5), waiting(b, 0, 5)), all(waiting(a, 1, 0), waiting(b, 1, 0)))},
		{"one that does both, empty", open(1, sender, all(waiting(a, 1, 0)))},
		{"one that does both, full", open(1, sender, all(waiting(a, 1, 0)), 1)},
	} {
		refusesState(t, at.what, at.s)
		refusesState(t, at.what+", ahead of another one", at.s, open(1, no, no))
		refusesState(t, at.what+", behind others", open(1, no, no), shut(2), at.s)
	}
}

// TestLoadOfTooMany: H1: 1024 channels may be, one more may not, whatever they are.
func TestLoadOfTooMany(t *testing.T) {
	for _, s := range []api.ChanState{open(0, no, no), shut(1, 5), open(2, no, no, 5)} {
		l := slices.Repeat([]api.ChanState{s}, most+1)
		tells(t, "as many as may be", load(t, l[:most]...), l[:most]...)
		refusesState(t, "one more", l...)
	}
	refusesState(t, "far too many", make([]api.ChanState, 1<<16)...)
}

// TestLoadGoesOn: H1: channels of a state do what those do that told it, the selects among them too.
func TestLoadGoesOn(t *testing.T) {
	x := fresh(t, 1, 0, 0, 2)
	sends(t, x, 1, a, 5, passed())
	sends(t, x, 1, b, 6, blocked())
	stands(t, x, 2, waiting(c, 0, 0), false, api.TrapNone)
	stands(t, x, 1, waiting(c, 1, 7), true, api.TrapNone)
	stands(t, x, 3, waiting(c, 2, 8), true, api.TrapNone)
	sends(t, x, 4, a, 9, passed())
	closes(t, x, 4, api.Moved{})
	for _, x := range []*channel.Chans{load(t, x.State()...), x} {
		refuses(t, x, 4, c, api.ErrWaits)
		refuses(t, x, 4, b, api.ErrWaits)
		receives(t, x, 1, a, got(5, sent(b, 0)))
		receives(t, x, 1, a, got(6, sent(c, 1)))
		receives(t, x, 4, c, got(9))
		receives(t, x, 4, c, api.Moved{})
		makes(t, x, 0, 5)
		tells(t, "going on", x, open(1, no, no, 7), open(0, no, no), open(0, no, no), shut(2), open(0, no, no))
	}
}

// TestLoadOfAllSmallStates: H1: of all channels with few values and few that wait, Load takes just those that may be by the document's words.
func TestLoadOfAllSmallStates(t *testing.T) {
	queues := [][]api.Waiter{nil}
	for _, w := range all(waiting(a, 0, 0), waiting(a, 1, 5), waiting(b, 0, 0)) {
		queues = append(queues, all(w), all(w, waiting(a, 2, 0)), all(w, waiting(b, 2, 0)), all(w, waiting(b, 2, -5)))
	}
	took := 0
	for _, capacity := range []int{-1, 0, 1, 2} {
		for held := range 4 {
			for _, senders := range queues {
				for _, receivers := range queues {
					for _, closed := range []bool{false, true} {
						s := api.ChanState{Cap: capacity, Values: numbers(1, held), Senders: senders, Receivers: receivers, Closed: closed}
						if mayBe(s) {
							took++
							tells(t, "a small state", load(t, s), s)
						} else {
							refusesState(t, "a small state", s)
						}
					}
				}
			}
		}
	}
	if took < 50 {
		t.Errorf("%d states may be: too few to tell anything", took)
	}
}

// mayBe tells whether a channel may be, by the document's words, one behind the other.
func mayBe(s api.ChanState) bool {
	if s.Cap < 0 || s.Cap > 1024 {
		return false
	}
	if len(s.Values) > s.Cap {
		return false
	}
	for range s.Senders {
		if len(s.Values) != s.Cap || s.Closed {
			return false
		}
	}
	for _, r := range s.Receivers {
		if len(s.Values) != 0 || s.Closed || r.Value != 0 {
			return false
		}
	}
	names := map[api.Gid]int{}
	for _, w := range slices.Concat(s.Senders, s.Receivers) {
		names[w.G]++
	}
	for range len(s.Senders) * len(s.Receivers) {
		if len(names) != 1 {
			return false
		}
	}
	return true
}
