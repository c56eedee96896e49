package channel_test

import (
	"testing"

	"rota/api"
	"rota/channel"
)

// TestWait: H6: behind the others, with the case and, of a send alone, the value; of nil nothing; of no channel TrapChan.
func TestWait(t *testing.T) {
	for _, v := range edges() {
		x := fresh(t, 0, 1, 0)
		sends(t, x, 1, a, 7, blocked())
		stands(t, x, 1, waiting(b, 3, v), true, api.TrapNone)
		stands(t, x, 1, waiting(c, -3, v), true, api.TrapNone)
		receives(t, x, 2, d, blocked())
		stands(t, x, 2, waiting(b, 4, v), false, api.TrapNone)
		stands(t, x, 2, waiting(e, int(v), v), false, api.TrapNone)
		want := []api.ChanState{
			open(0, all(waiting(a, 0, 7), waiting(b, 3, v), waiting(c, -3, v)), no),
			open(1, no, all(waiting(d, 0, 0), waiting(b, 4, 0), waiting(e, int(v), 0))),
			open(0, no, no),
		}
		tells(t, "Wait", x, want...)
		for _, send := range []bool{false, true} {
			stands(t, x, 0, waiting(api.Gid{Slot: 9}, 1, v), send, api.TrapNone)
			for _, ch := range noChannels(3) {
				stands(t, x, ch, waiting(api.Gid{Slot: 9}, 1, v), send, api.TrapChan)
			}
		}
		if x.Waits(api.Gid{Slot: 9}) {
			t.Error("Wait on nil, and on no channel: it waits")
		}
		tells(t, "Wait, wrongly", x, want...)
	}
}

// selects lets one wait for four cases: it sends on 1 and on 2, which is full, and receives from 1 and from 3.
func selects(t *testing.T) *channel.Chans {
	t.Helper()
	x := fresh(t, 0, 1, 2, 0)
	sends(t, x, 2, a, 50, passed())
	stands(t, x, 1, waiting(g4, 0, 10), true, api.TrapNone)
	stands(t, x, 1, waiting(g4, 1, 11), false, api.TrapNone)
	stands(t, x, 2, waiting(g4, 2, 12), true, api.TrapNone)
	stands(t, x, 3, waiting(g4, 3, 13), false, api.TrapNone)
	return x
}

// g4 waits in four places.
var g4 = api.Gid{Slot: 4, Gen: 4}

// left is the channels of selects, when it has left all of them.
func left() []api.ChanState {
	return []api.ChanState{open(0, no, no), open(1, no, no, 50), open(2, no, no), open(0, no, no)}
}

// TestWokenFromAllPlaces: H6, H9: whichever case goes on, it is told, and the goroutine waits nowhere more.
func TestWokenFromAllPlaces(t *testing.T) {
	full := left()
	full[1].Values = []int64{12}
	closed := func(ch int) []api.ChanState {
		l := left()
		l[ch-1].Closed = true
		return l
	}
	for _, at := range []struct {
		what string
		do   func(x *channel.Chans)
		want []api.ChanState
	}{
		{"the first, received from", func(x *channel.Chans) { receives(t, x, 1, b, got(10, sent(g4, 0))) }, left()},
		{"the second, sent on", func(x *channel.Chans) { sends(t, x, 1, b, 5, passed(handed(g4, 1, 5))) }, left()},
		{"the third, received from", func(x *channel.Chans) { receives(t, x, 2, b, got(50, sent(g4, 2))) }, full},
		{"the fourth, sent on", func(x *channel.Chans) { sends(t, x, 3, b, 6, passed(handed(g4, 3, 6))) }, left()},
		{"the first and second, closed", func(x *channel.Chans) { closes(t, x, 1, api.Moved{Woken: []api.Woken{ended(g4, 1)}}) }, closed(1)},
		{"the third, closed", func(x *channel.Chans) { closes(t, x, 2, api.Moved{Woken: []api.Woken{broken(g4, 2)}}) }, closed(2)},
		{"the fourth, closed", func(x *channel.Chans) { closes(t, x, 3, api.Moved{Woken: []api.Woken{ended(g4, 3)}}) }, closed(3)},
	} {
		x := selects(t)
		refuses(t, x, 4, g4, api.ErrWaits)
		at.do(x)
		tells(t, at.what, x, at.want...)
		leaves(t, x, g4, 0)
		receives(t, x, 4, g4, blocked())
	}
}

// TestLeave: H6: nowhere, one place, several places; others stay, in their order; and who has left may wait again.
func TestLeave(t *testing.T) {
	x := selects(t)
	for _, g := range []api.Gid{a, b, c, {}, {Slot: 4, Gen: 3}, {Slot: 3, Gen: 4}} {
		leaves(t, x, g, 0)
	}
	leaves(t, x, g4, 4)
	tells(t, "Leave of several places", x, left()...)
	leaves(t, x, g4, 0)
	sends(t, x, 4, g4, 3, blocked())
	leaves(t, x, g4, 1)
	receives(t, x, 4, g4, blocked())
	leaves(t, x, g4, 1)
	tells(t, "Leave of one place", x, left()...)
	for n, g := range []api.Gid{a, b, g4, c, d} {
		sends(t, x, 4, g, int64(n), blocked())
		stands(t, x, 3, waiting(g, n, 0), false, api.TrapNone)
		stands(t, x, 3, waiting(g, n+10, 0), false, api.TrapNone)
	}
	leaves(t, x, g4, 3)
	leaves(t, x, a, 3)
	leaves(t, x, d, 3)
	want := left()
	want[2] = open(2, no, all(waiting(b, 1, 0), waiting(b, 11, 0), waiting(c, 3, 0), waiting(c, 13, 0)))
	want[3] = open(0, all(waiting(b, 0, 1), waiting(c, 0, 3)), no)
	tells(t, "Leave among others", x, want...)
	leaves(t, x, b, 3)
	leaves(t, x, c, 3)
	tells(t, "Leave of all", x, left()...)
}

// TestOthersStayWhenOneIsWoken: H6, H9: a select that is woken leaves gaps in queues; those behind it move up.
func TestOthersStayWhenOneIsWoken(t *testing.T) {
	x := fresh(t, 0, 0)
	sends(t, x, 2, a, 1, blocked())
	stands(t, x, 1, waiting(b, 0, 2), true, api.TrapNone)
	stands(t, x, 2, waiting(b, 1, 3), true, api.TrapNone)
	stands(t, x, 1, waiting(c, 5, 4), true, api.TrapNone)
	sends(t, x, 2, d, 5, blocked())
	receives(t, x, 1, e, got(2, sent(b, 0)))
	tells(t, "one woken in the midst", x, open(0, all(waiting(c, 5, 4)), no), open(0, all(waiting(a, 0, 1), waiting(d, 0, 5)), no))
	receives(t, x, 2, e, got(1, sent(a, 0)))
	receives(t, x, 2, e, got(5, sent(d, 0)))
	receives(t, x, 1, e, got(4, sent(c, 5)))
}

// TestCloseOfSelects: H5, H6: each is told once, by its first place there, and leaves the other channels too.
func TestCloseOfSelects(t *testing.T) {
	x := fresh(t, 0, 0, 1)
	for n, g := range []api.Gid{a, b, c} {
		stands(t, x, 1, waiting(g, n, 0), false, api.TrapNone)
		stands(t, x, 2, waiting(g, n+10, 7), true, api.TrapNone)
		stands(t, x, 1, waiting(g, n+20, 0), false, api.TrapNone)
	}
	sends(t, x, 2, d, 8, blocked())
	receives(t, x, 3, e, blocked())
	closes(t, x, 1, api.Moved{Woken: []api.Woken{ended(a, 0), ended(b, 1), ended(c, 2)}})
	tells(t, "Close of selects", x, shut(0), open(0, all(waiting(d, 0, 8)), no), open(1, no, all(waiting(e, 0, 0))))
	closes(t, x, 2, api.Moved{Woken: []api.Woken{broken(d, 0)}})
	closes(t, x, 3, api.Moved{Woken: []api.Woken{ended(e, 0)}})
	tells(t, "Close of all", x, shut(0), shut(0), shut(1))
}

// TestNotGiven: H6: of nil channels, and of some that New and Load did not give, each call answers what the chapter says, and nothing comes of it.
func TestNotGiven(t *testing.T) {
	var none *channel.Chans
	var plain channel.Chans
	for _, x := range []*channel.Chans{none, &plain, new(channel.Chans), {}} {
		for range 2 {
			for _, capacity := range []int64{0, 1, most, -1, most + 1} {
				fails(t, x, capacity, api.TrapChan)
			}
			for _, ch := range append(noChannels(0), 0, 1) {
				asksNotGiven(t, x, ch)
			}
			if l := x.State(); len(l) != 0 {
				t.Errorf("State: %v", l)
			}
			leaves(t, x, a, 0)
		}
	}
}

// asksNotGiven asks channels that nobody gave for one of them.
func asksNotGiven(t *testing.T, x *channel.Chans, ch int64) {
	t.Helper()
	if n, trap := x.Len(ch); n != 0 || trap != api.TrapChan {
		t.Errorf("Len(%d): %d, %d", ch, n, trap)
	}
	if n, trap := x.Cap(ch); n != 0 || trap != api.TrapChan {
		t.Errorf("Cap(%d): %d, %d", ch, n, trap)
	}
	refuses(t, x, ch, a, api.ErrChans)
	closes(t, x, ch, trapped(api.TrapChan))
	for _, send := range []bool{false, true} {
		if yes, trap := x.Goes(ch, send); yes || trap != api.TrapChan {
			t.Errorf("Goes(%d, %v): %v, %d", ch, send, yes, trap)
		}
		stands(t, x, ch, waiting(a, 0, 1), send, api.TrapChan)
	}
}

// TestWaitsThatMayNotBe: H6, R1: behind a Wait that may not be calls end still, and panic not.
func TestWaitsThatMayNotBe(t *testing.T) {
	for _, s := range []api.ChanState{open(0, no, no), open(1, no, no), open(1, no, no, 5), open(2, no, no, 5), shut(0), shut(1, 5)} {
		for n := range 1 << 6 {
			x := load(t, s, s)
			for _, w := range []api.Gid{a, b, a} {
				stands(t, x, int64(1+n>>1&1), waiting(w, n, 3), n&1 == 0, api.TrapNone)
				n >>= 2
			}
			for _, g := range []api.Gid{c, d, a, b} {
				for ch := range int64(4) {
					x.Send(ch, g, 1)
					x.Recv(ch, g)
					x.Goes(ch, true)
					x.Goes(ch, false)
				}
			}
			x.Close(1)
			x.Close(2)
			x.Leave(a)
			x.State()
		}
	}
}
