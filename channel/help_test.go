package channel_test

import (
	"math"
	"slices"
	"testing"

	"rota/api"
	"rota/channel"
)

// most is how many channels there may be, and how many values one may hold.
const most = 1024

// a to e are goroutines. Some of them have the same slot, or the same generation.
var (
	a = api.Gid{Slot: 0, Gen: 1}
	b = api.Gid{Slot: 1, Gen: 1}
	c = api.Gid{Slot: 1, Gen: 2}
	d = api.Gid{Slot: 2, Gen: 1}
	e = api.Gid{Slot: 2, Gen: 2}
)

// everybody is all of them, and names that nobody has by a slab's rules: this layer knows no such rules.
func everybody() []api.Gid {
	return []api.Gid{a, b, c, d, e, {}, {Slot: -1, Gen: -1}, {Slot: math.MaxInt, Gen: math.MinInt}}
}

// no is a list of nobody.
var no []api.Waiter

// waiting is one that waits.
func waiting(g api.Gid, number int, value int64) api.Waiter {
	return api.Waiter{G: g, Case: number, Value: value}
}

// all is a list of those that wait.
func all(l ...api.Waiter) []api.Waiter { return l }

// open and shut are channels.
func open(capacity int, senders, receivers []api.Waiter, values ...int64) api.ChanState {
	return api.ChanState{Cap: capacity, Senders: senders, Receivers: receivers, Values: values}
}
func shut(capacity int, values ...int64) api.ChanState {
	return api.ChanState{Cap: capacity, Values: values, Closed: true}
}

// passed, got, blocked and trapped are what a call did.
func passed(woken ...api.Woken) api.Moved { return api.Moved{Ok: true, Woken: woken} }
func got(v int64, woken ...api.Woken) api.Moved {
	return api.Moved{Value: v, Ok: true, Woken: woken}
}
func blocked() api.Moved           { return api.Moved{Waits: true} }
func trapped(x api.Trap) api.Moved { return api.Moved{Trap: x} }

// sent, handed, ended and broken are those that were woken: a sender, a receiver, and both by a Close.
func sent(g api.Gid, number int) api.Woken { return api.Woken{G: g, Case: number, Ok: true} }
func handed(g api.Gid, number int, v int64) api.Woken {
	return api.Woken{G: g, Case: number, Value: v, Ok: true}
}
func ended(g api.Gid, number int) api.Woken { return api.Woken{G: g, Case: number} }
func broken(g api.Gid, number int) api.Woken {
	return api.Woken{G: g, Case: number, Trap: api.TrapSend}
}

// fresh is new channels of capacities.
func fresh(t *testing.T, capacities ...int64) *channel.Chans {
	t.Helper()
	x := channel.New()
	for n, capacity := range capacities {
		makes(t, x, capacity, int64(n+1))
	}
	return x
}

// load is channels of a state.
func load(t *testing.T, l ...api.ChanState) *channel.Chans {
	t.Helper()
	x, e := channel.Load(l)
	if e != api.OK || x == nil {
		t.Fatalf("Load(%+v): %v, %d", l, x, e)
	}
	return x
}

// makes makes a channel.
func makes(t *testing.T, x *channel.Chans, capacity, want int64) {
	t.Helper()
	if ch, trap := x.Make(capacity); ch != want || trap != api.TrapNone {
		t.Fatalf("Make(%d): %d, %d, not %d", capacity, ch, trap, want)
	}
}

// fails asks for a channel that may not be.
func fails(t *testing.T, x *channel.Chans, capacity int64, want api.Trap) {
	t.Helper()
	if ch, trap := x.Make(capacity); ch != 0 || trap != want {
		t.Errorf("Make(%d): %d, %d, not %d", capacity, ch, trap, want)
	}
}

// sends sends a value; the error is none.
func sends(t *testing.T, x *channel.Chans, ch int64, g api.Gid, v int64, want api.Moved) {
	t.Helper()
	if m, e := x.Send(ch, g, v); !sameMove(m, want) || e != api.OK {
		t.Errorf("Send(%d, %v, %d): %+v, %d, not %+v", ch, g, v, m, e, want)
	}
}

// receives receives a value; the error is none.
func receives(t *testing.T, x *channel.Chans, ch int64, g api.Gid, want api.Moved) {
	t.Helper()
	if m, e := x.Recv(ch, g); !sameMove(m, want) || e != api.OK {
		t.Errorf("Recv(%d, %v): %+v, %d, not %+v", ch, g, m, e, want)
	}
}

// refuses asks Send and Recv of a goroutine for an error.
func refuses(t *testing.T, x *channel.Chans, ch int64, g api.Gid, want api.Errno) {
	t.Helper()
	if m, e := x.Send(ch, g, 5); !sameMove(m, api.Moved{}) || e != want {
		t.Errorf("Send(%d, %v): %+v, %d, not %d", ch, g, m, e, want)
	}
	if m, e := x.Recv(ch, g); !sameMove(m, api.Moved{}) || e != want {
		t.Errorf("Recv(%d, %v): %+v, %d, not %d", ch, g, m, e, want)
	}
}

// closes closes a channel.
func closes(t *testing.T, x *channel.Chans, ch int64, want api.Moved) {
	t.Helper()
	if m := x.Close(ch); !sameMove(m, want) {
		t.Errorf("Close(%d): %+v, not %+v", ch, m, want)
	}
}

// stands lets one wait, without a try.
func stands(t *testing.T, x *channel.Chans, ch int64, w api.Waiter, send bool, want api.Trap) {
	t.Helper()
	if trap := x.Wait(ch, w, send); trap != want {
		t.Errorf("Wait(%d, %+v, %v): %d, not %d", ch, w, send, trap, want)
	}
}

// leaves lets one wait nowhere more.
func leaves(t *testing.T, x *channel.Chans, g api.Gid, want int) {
	t.Helper()
	if n := x.Leave(g); n != want {
		t.Errorf("Leave(%v): %d, not %d", g, n, want)
	}
	if x.Waits(g) {
		t.Errorf("Waits(%v) behind Leave of it: true", g)
	}
}

// goes asks whether a send, and a receive, would not wait.
func goes(t *testing.T, x *channel.Chans, ch int64, send, recv bool) {
	t.Helper()
	if yes, trap := x.Goes(ch, true); yes != send || trap != api.TrapNone {
		t.Errorf("Goes(%d, true): %v, %d, not %v", ch, yes, trap, send)
	}
	if yes, trap := x.Goes(ch, false); yes != recv || trap != api.TrapNone {
		t.Errorf("Goes(%d, false): %v, %d, not %v", ch, yes, trap, recv)
	}
}

// tells asks channels by all that tell something of them: they are of that state.
func tells(t *testing.T, what string, x *channel.Chans, want ...api.ChanState) {
	t.Helper()
	if l := x.State(); !sameStates(l, want) {
		t.Errorf("%s: State: %+v, not %+v", what, l, want)
	}
	var those []api.Gid
	for i, s := range want {
		ch := int64(i + 1)
		if n, trap := x.Len(ch); n != int64(len(s.Values)) || trap != api.TrapNone {
			t.Errorf("%s: Len(%d): %d, %d, not %d", what, ch, n, trap, len(s.Values))
		}
		if n, trap := x.Cap(ch); n != int64(s.Cap) || trap != api.TrapNone {
			t.Errorf("%s: Cap(%d): %d, %d, not %d", what, ch, n, trap, s.Cap)
		}
		for _, w := range slices.Concat(s.Senders, s.Receivers) {
			those = append(those, w.G)
		}
	}
	if _, trap := x.Len(int64(len(want) + 1)); trap != api.TrapChan {
		t.Errorf("%s: there are more than %d channels", what, len(want))
	}
	for _, g := range slices.Concat(everybody(), those) {
		if yes := x.Waits(g); yes != slices.Contains(those, g) {
			t.Errorf("%s: Waits(%v): %v", what, g, yes)
		}
	}
}

// sameMove tells whether two calls did the same; nil and the empty list are the same.
func sameMove(x, y api.Moved) bool {
	return x.Waits == y.Waits && x.Value == y.Value && x.Ok == y.Ok && x.Trap == y.Trap && slices.Equal(x.Woken, y.Woken)
}

// same tells whether two channels are.
func same(x, y api.ChanState) bool {
	return x.Cap == y.Cap && x.Closed == y.Closed && slices.Equal(x.Values, y.Values) &&
		slices.Equal(x.Senders, y.Senders) && slices.Equal(x.Receivers, y.Receivers)
}

// sameStates tells whether two states are.
func sameStates(x, y []api.ChanState) bool { return slices.EqualFunc(x, y, same) }

// copyOf is a state in memory of its own.
func copyOf(l []api.ChanState) []api.ChanState {
	var out []api.ChanState
	for _, s := range l {
		s.Values = append([]int64(nil), s.Values...)
		s.Senders = append([]api.Waiter(nil), s.Senders...)
		s.Receivers = append([]api.Waiter(nil), s.Receivers...)
		out = append(out, s)
	}
	return out
}

// noChannels is handles that are no channel's, and not nil, where there are so many.
func noChannels(n int64) []int64 {
	return []int64{-1, -2, -n, -n - 1, n + 1, n + 2, n + most, 1 << 32, 1<<32 + 1, -1 << 32, math.MaxInt64, math.MinInt64}
}

// numbers is so many of them, from one on.
func numbers(from int64, n int) []int64 {
	l := make([]int64, n)
	for i := range l {
		l[i] = from + int64(i)
	}
	return l
}

// edges is numbers at which something may go wrong.
func edges() []int64 {
	return []int64{0, 1, -1, 7, most, 1 << 31, -1 << 31, 1 << 32, math.MaxInt64, math.MinInt64}
}
