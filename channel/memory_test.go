package channel_test

import (
	"slices"
	"sync"
	"testing"

	"rota/api"
	"rota/channel"
)

// mark is what values are written over with.
const mark = -77

// over writes over a list, and over the room behind its end.
func over[T any](l []T, with T) {
	l = l[:cap(l)]
	for i := range l {
		l[i] = with
	}
}

// odd is one that waits nowhere in the tests.
func odd() api.Waiter { return waiting(api.Gid{Slot: mark, Gen: mark}, mark, mark) }

// spoil writes over all of a state.
func spoil(l []api.ChanState) {
	for _, s := range l {
		over(s.Values, mark)
		over(s.Senders, odd())
		over(s.Receivers, odd())
	}
	over(l, api.ChanState{Cap: mark, Closed: true})
}

// examples is states with something of all.
func examples() [][]api.ChanState {
	return [][]api.ChanState{
		nil,
		{open(0, no, no)},
		{open(2, no, no, 5), shut(3, 1, 2), open(0, all(waiting(a, 1, 6)), all(waiting(a, 0, 0)))},
		{open(2, all(waiting(a, 0, 1), waiting(b, 3, 2), waiting(c, 0, 3)), no, 8, 9), open(4, no, all(waiting(d, 2, 0), waiting(b, 1, 0))), open(1, no, no)},
		{open(64, no, no, numbers(3, 40)...), open(0, all(waiting(c, 0, 4), waiting(d, 1, 5)), no), shut(0)},
	}
}

// busy carries out calls that move all that channels keep.
func busy(x *channel.Chans) {
	for _, g := range everybody() {
		x.Make(2)
		for ch := range int64(len(x.State())) {
			x.Send(ch+1, g, 100+ch)
			x.Recv(ch+1, e)
			x.Send(ch+1, api.Gid{Slot: 50, Gen: int(ch)}, 200+ch)
			x.Leave(api.Gid{Slot: 50, Gen: int(ch)})
		}
	}
	x.Leave(a)
	for ch := range int64(len(x.State())) {
		x.Recv(ch+1, a)
		x.Close(ch + 1)
		x.Recv(ch+1, a)
	}
}

// roomy is a state whose lists of one kind lie in one piece of memory each, so that the room behind a list's end is the next one's; and these pieces.
func roomy(l []api.ChanState) ([]api.ChanState, []int64, []api.Waiter) {
	var values []int64
	var waiters []api.Waiter
	for _, s := range l {
		values = append(values, s.Values...)
		waiters = slices.Concat(waiters, s.Senders, s.Receivers)
	}
	values, waiters = append(values, mark, mark), append(waiters, odd(), odd())
	v, w := 0, 0
	nextWaiters := func(n int) []api.Waiter {
		w += n
		return waiters[w-n : w]
	}
	out := append(copyOf(l), open(mark, no, no))
	for i, s := range l {
		v += len(s.Values)
		out[i].Values = values[v-len(s.Values) : v]
		out[i].Senders = nextWaiters(len(s.Senders))
		out[i].Receivers = nextWaiters(len(s.Receivers))
	}
	return out, values, waiters
}

// TestStateHandedInIsNotKept: R3: nor is it changed, nor what lies behind its lists' ends.
func TestStateHandedInIsNotKept(t *testing.T) {
	for _, l := range examples() {
		in, values, waiters := roomy(l)
		wasValues, wasWaiters := slices.Clone(values), slices.Clone(waiters)
		x := load(t, in[:len(l)]...)
		busy(x)
		if !sameStates(in, append(copyOf(l), open(mark, no, no))) || !slices.Equal(values, wasValues) || !slices.Equal(waiters, wasWaiters) {
			t.Errorf("what was handed in has changed: %+v, not %+v", in, l)
		}
		want := x.State()
		spoil(in)
		tells(t, "Load, then written over", x, want...)

		in = copyOf(l)
		x = load(t, in...)
		spoil(in)
		tells(t, "Load, then written over at once", x, l...)
	}
}

// TestStateToldIsNotKept: R3: a state that is written over changes neither the channels nor another state, and channels that go on change no state.
func TestStateToldIsNotKept(t *testing.T) {
	for _, l := range examples() {
		x := load(t, l...)
		for range 2 {
			want := copyOf(x.State())
			first, second := x.State(), x.State()
			spoil(first)
			if !sameStates(second, want) {
				t.Errorf("two states share memory: %+v", second)
			}
			tells(t, "State, then written over", x, want...)
			was := copyOf(first)
			busy(x)
			if !sameStates(second, want) || !sameStates(first, was) {
				t.Errorf("later calls have changed states: %+v, %+v", second, first)
			}
		}
	}
}

// TestListsOfAStateAreApart: R3: no two lists of one answer share memory, their room neither.
func TestListsOfAStateAreApart(t *testing.T) {
	for _, l := range examples() {
		for n := range 3 * len(l) {
			out, want := load(t, l...).State(), copyOf(l)
			s := &out[n/3]
			switch n % 3 {
			case 0:
				over(s.Values, mark)
				s.Values = want[n/3].Values
			case 1:
				over(s.Senders, odd())
				s.Senders = want[n/3].Senders
			default:
				over(s.Receivers, odd())
				s.Receivers = want[n/3].Receivers
			}
			if !sameStates(out, want) {
				t.Errorf("the list %d shares memory with another one: %+v", n, out)
			}
		}
	}
}

// TestWokenIsNotKept: R3: what is told of those that were woken is new memory each time.
func TestWokenIsNotKept(t *testing.T) {
	spoiled := api.Woken{G: api.Gid{Slot: mark}, Case: mark, Value: mark, Trap: mark}
	state := []api.ChanState{
		open(1, all(waiting(a, 1, 5), waiting(b, 2, 6), waiting(c, 3, 7)), no, 4),
		open(0, no, all(waiting(d, 0, 0), waiting(e, 1, 0))),
	}
	for _, x := range []call{{kind: recv, ch: 1, g: api.Gid{Slot: 9}}, {kind: put, ch: 2, g: api.Gid{Slot: 9}, v: 3}, {kind: end, ch: 1}, {kind: end, ch: 2}} {
		first, second := load(t, state...), load(t, state...)
		m, other := x.on(first).moved, x.on(second).moved
		if len(m.Woken) == 0 {
			t.Fatalf("%+v woke nobody", x)
		}
		want := first.State()
		over(m.Woken, spoiled)
		tells(t, "Woken, then written over", first, want...)
		if slices.Contains(other.Woken, spoiled) {
			t.Errorf("%+v: two answers share memory", x)
		}
		was := slices.Clone(other.Woken)
		for range 3 {
			busy(second)
		}
		if !slices.Equal(other.Woken, was) {
			t.Errorf("%+v: later calls have changed %+v to %+v", x, was, other.Woken)
		}
	}
}

// TestRefusedCallsAreNotRemembered: R2, R4: what was refused, or trapped, is not seen in any later answer.
func TestRefusedCallsAreNotRemembered(t *testing.T) {
	x := fresh(t, 1)
	sends(t, x, 1, a, 5, passed())
	sends(t, x, 1, b, 6, blocked())
	want := x.State()
	for _, ch := range noChannels(1) {
		sends(t, x, ch, c, 1, trapped(api.TrapChan))
		receives(t, x, ch, c, trapped(api.TrapChan))
		closes(t, x, ch, trapped(api.TrapChan))
		stands(t, x, ch, waiting(c, 1, 1), true, api.TrapChan)
		refuses(t, x, ch, b, api.ErrWaits)
		fails(t, x, -1, api.TrapBuffer)
	}
	tells(t, "behind refused calls", x, want...)
	makes(t, x, 0, 2)
	receives(t, x, 1, c, got(5, sent(b, 0)))
	receives(t, x, 1, c, got(6))
}

// TestChannelsAreApart: R4: what is done with some is not seen in others, those of the same state too.
func TestChannelsAreApart(t *testing.T) {
	for _, l := range examples() {
		x, y := load(t, l...), load(t, l...)
		z := load(t, x.State()...)
		busy(x)
		tells(t, "others of the same state", y, l...)
		tells(t, "others of a state that was told", z, l...)
		tells(t, "new ones", fresh(t))
		want := x.State()
		busy(y)
		tells(t, "the first", x, want...)
	}
	x, y := fresh(t, 0), fresh(t, 0)
	sends(t, x, 1, a, 1, blocked())
	receives(t, y, 1, a, blocked())
	receives(t, x, 1, b, got(1, sent(a, 0)))
	sends(t, y, 1, b, 2, passed(handed(a, 0, 2)))
}

// TestOneAnswer: R4: the same calls have the same answers, asked by several goroutines at once, each with its own channels.
func TestOneAnswer(t *testing.T) {
	state := examples()[3]
	want := load(t, state...)
	busy(want)
	last := want.State()
	var group sync.WaitGroup
	for range 8 {
		group.Go(func() {
			for range 50 {
				x, e := channel.Load(state)
				if e != api.OK {
					t.Errorf("Load: %d", e)
					return
				}
				tells(t, "one of several", x, state...)
				busy(x)
				tells(t, "one of several, behind calls", x, last...)
			}
		})
	}
	group.Wait()
}
