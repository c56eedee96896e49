package choose_test

import (
	"math"
	"slices"
	"testing"

	"rota/api"
	"rota/channel"
	"rota/choose"
)

// most is how many cases a select may have.
const most = 16

// greatest is the greatest number that can be drawn.
const greatest = math.MaxUint64

// me selects; the others are goroutines beside it, some of the same slot, or the same generation.
var (
	me = api.Gid{Slot: 1, Gen: 1}
	a  = api.Gid{Slot: 0, Gen: 1}
	b  = api.Gid{Slot: 1, Gen: 2}
	c  = api.Gid{Slot: 2, Gen: 1}
	d  = api.Gid{Slot: 2, Gen: 2}
)

// everybody is all of them, and names that nobody has by a slab's rules: this layer knows no such rules.
func everybody() []api.Gid {
	return []api.Gid{me, a, b, c, d, {}, {Slot: -1, Gen: -1}, {Slot: math.MaxInt, Gen: math.MinInt}}
}

// no is a list of nobody.
var no []api.Waiter

// waiting is one that waits.
func waiting(g api.Gid, number int, value int64) api.Waiter {
	return api.Waiter{G: g, Case: number, Value: value}
}

// all is a list of those that wait.
func all(l ...api.Waiter) []api.Waiter { return l }

// open and shut are channels.
func open(capacity int, senders, receivers []api.Waiter, values ...int64) api.ChanState {
	return api.ChanState{Cap: capacity, Senders: senders, Receivers: receivers, Values: values}
}
func shut(capacity int, values ...int64) api.ChanState {
	return api.ChanState{Cap: capacity, Values: values, Closed: true}
}

// recv and send are cases; the others are lists: of cases, of drawn numbers, of so many zeros, of so many cases of nil, and of so many of one.
func recv(ch int64) api.Pick      { return api.Pick{Chan: ch} }
func send(ch, v int64) api.Pick   { return api.Pick{Send: true, Chan: ch, Value: v} }
func of(l ...api.Pick) []api.Pick { return l }
func drawn(l ...uint64) []uint64  { return l }
func zeros(n int) []uint64        { return make([]uint64, n) }
func nils(n int) []api.Pick       { return make([]api.Pick, n) }
func repeated(n int, p api.Pick) []api.Pick {
	l := nils(n)
	for i := range l {
		l[i] = p
	}
	return l
}

// The answers of a select: the case that went on, and what it did; the default; it waits; a trap ahead of all cases.
func went(number int, m api.Moved) api.Chosen { return api.Chosen{Case: number, Moved: m} }
func byDefault() api.Chosen                   { return api.Chosen{Case: -1, Default: true} }
func blocked() api.Chosen                     { return api.Chosen{Case: -1, Moved: api.Moved{Waits: true}} }
func noChannel() api.Chosen {
	return api.Chosen{Case: -1, Moved: api.Moved{Trap: api.TrapChan}}
}

// passed, got, empty and broken are what a case did: a send, a receive of a value, one of a closed channel, a send on one.
func passed(woken ...api.Woken) api.Moved { return api.Moved{Ok: true, Woken: woken} }
func got(v int64, woken ...api.Woken) api.Moved {
	return api.Moved{Value: v, Ok: true, Woken: woken}
}
func empty() api.Moved  { return api.Moved{} }
func broken() api.Moved { return api.Moved{Trap: api.TrapSend} }

// sent and handed are those that were woken: a sender, a receiver.
func sent(g api.Gid, number int) api.Woken { return api.Woken{G: g, Case: number, Ok: true} }
func handed(g api.Gid, number int, v int64) api.Woken {
	return api.Woken{G: g, Case: number, Value: v, Ok: true}
}

// load is channels of a state.
func load(t *testing.T, l ...api.ChanState) *channel.Chans {
	t.Helper()
	x, e := channel.Load(l)
	if e != api.OK || x == nil {
		t.Fatalf("Load(%+v): %v, %d", l, x, e)
	}
	return x
}

// orders asks for an order.
func orders(t *testing.T, draws []uint64, want ...int) {
	t.Helper()
	if l, e := choose.Order(len(want), draws); !slices.Equal(l, want) || e != api.OK {
		t.Errorf("Order(%d, %v): %v, %d, not %v", len(want), draws, l, e, want)
	}
}

// noOrder asks for one that is refused.
func noOrder(t *testing.T, n int, draws []uint64, want api.Errno) {
	t.Helper()
	if l, e := choose.Order(n, draws); len(l) != 0 || e != want {
		t.Errorf("Order(%d, %v): %v, %d, not %d", n, draws, l, e, want)
	}
}

// draws asks for the numbers of an order.
func draws(t *testing.T, order []int, want ...uint64) {
	t.Helper()
	if l, e := choose.Draws(order); !slices.Equal(l, want) || e != api.OK {
		t.Errorf("Draws(%v): %v, %d, not %v", order, l, e, want)
	}
}

// noDraws asks for those of a list that is refused.
func noDraws(t *testing.T, order []int, want api.Errno) {
	t.Helper()
	if l, e := choose.Draws(order); len(l) != 0 || e != want {
		t.Errorf("Draws(%v): %v, %d, not %d", order, l, e, want)
	}
}

// selects asks for a select of me that is not refused.
func selects(t *testing.T, x *channel.Chans, l []api.Pick, def bool, draws []uint64, want api.Chosen) {
	t.Helper()
	selectsBy(t, x, me, l, def, draws, want)
}

// selectsBy asks for one of a goroutine.
func selectsBy(t *testing.T, x *channel.Chans, g api.Gid, l []api.Pick, def bool, draws []uint64, want api.Chosen) {
	t.Helper()
	if y, e := choose.Select(x, g, l, def, draws); !sameChoice(y, want) || e != api.OK {
		t.Errorf("Select(%v, %+v, %v, %v): %+v, %d, not %+v", g, l, def, draws, y, e, want)
	}
}

// refuses asks for a select of a goroutine that is refused.
func refuses(t *testing.T, x *channel.Chans, g api.Gid, l []api.Pick, def bool, draws []uint64, want api.Errno) {
	t.Helper()
	if y, e := choose.Select(x, g, l, def, draws); !sameChoice(y, api.Chosen{Case: -1}) || e != want {
		t.Errorf("Select(%v, %+v, %v, %v): %+v, %d, not %d", g, l, def, draws, y, e, want)
	}
}

// tells asks channels for their state, and who waits there.
func tells(t *testing.T, what string, x *channel.Chans, want ...api.ChanState) {
	t.Helper()
	if l := x.State(); !sameStates(l, want) {
		t.Errorf("%s: State: %+v, not %+v", what, l, want)
	}
	var those []api.Gid
	for _, s := range want {
		for _, w := range slices.Concat(s.Senders, s.Receivers) {
			those = append(those, w.G)
		}
	}
	for _, g := range slices.Concat(everybody(), those) {
		if yes := x.Waits(g); yes != slices.Contains(those, g) {
			t.Errorf("%s: Waits(%v): %v", what, g, yes)
		}
	}
}

// sameMove tells whether two calls did the same; nil and the empty list are the same.
func sameMove(x, y api.Moved) bool {
	return x.Waits == y.Waits && x.Value == y.Value && x.Ok == y.Ok && x.Trap == y.Trap && slices.Equal(x.Woken, y.Woken)
}

// sameChoice tells whether two selects did.
func sameChoice(x, y api.Chosen) bool {
	return x.Case == y.Case && x.Default == y.Default && sameMove(x.Moved, y.Moved)
}

// sameStates tells whether two states are the same.
func sameStates(x, y []api.ChanState) bool {
	return slices.EqualFunc(x, y, func(x, y api.ChanState) bool {
		return x.Cap == y.Cap && x.Closed == y.Closed && slices.Equal(x.Values, y.Values) &&
			slices.Equal(x.Senders, y.Senders) && slices.Equal(x.Receivers, y.Receivers)
	})
}

// copyOf is a state in memory of its own.
func copyOf(l []api.ChanState) []api.ChanState {
	var out []api.ChanState
	for _, s := range l {
		s.Values = append([]int64(nil), s.Values...)
		s.Senders = append([]api.Waiter(nil), s.Senders...)
		s.Receivers = append([]api.Waiter(nil), s.Receivers...)
		out = append(out, s)
	}
	return out
}

// noChannels is handles that are no channel's, and not nil, where there are so many.
func noChannels(n int64) []int64 {
	return []int64{-1, -n, -n - 1, n + 1, n + 2, 77, 1 << 32, 1<<32 + 1, -1 << 32, math.MaxInt64, math.MinInt64}
}

// everyOrder is all orders of so many cases, each made by putting the last case at each place of those of one fewer.
func everyOrder(n int) [][]int {
	if n == 0 {
		return [][]int{{}}
	}
	var out [][]int
	for _, l := range everyOrder(n - 1) {
		for at := range n {
			out = append(out, slices.Insert(slices.Clone(l), at, n-1))
		}
	}
	return out
}

// drawsOf is the numbers of which an order comes, found by trying all of them: a way of its own.
func drawsOf(t *testing.T, order []int) []uint64 {
	t.Helper()
	for _, l := range everyDraws(len(order)) {
		if slices.Equal(orderOf(l), order) {
			return l
		}
	}
	t.Fatalf("nothing makes the order %v", order)
	return nil
}

// everyDraws is all lists of so many numbers, the i-th at most i.
func everyDraws(n int) [][]uint64 {
	out := [][]uint64{{}}
	for i := range n {
		var longer [][]uint64
		for _, l := range out {
			for j := range uint64(i + 1) {
				longer = append(longer, append(slices.Clone(l), j))
			}
		}
		out = longer
	}
	return out
}

// orderOf is the order of which all draws are looked at, by the document's words: a place is told by a map from places to cases, which begins with nothing.
func orderOf(draws []uint64) []int {
	at := map[uint64]int{}
	for i, x := range draws {
		j := x % uint64(i+1)
		if j < uint64(i) {
			at[uint64(i)] = at[j]
		}
		at[j] = i
	}
	var out []int
	for place := range uint64(len(draws)) {
		out = append(out, at[place])
	}
	return out
}
