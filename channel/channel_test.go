package channel_test

import (
	"math"
	"testing"

	"rota/api"
	"rota/channel"
)

// TestExampleBuffered: the chapter's first example.
func TestExampleBuffered(t *testing.T) {
	x := fresh(t, 1)
	sends(t, x, 1, a, 5, passed())
	sends(t, x, 1, b, 6, blocked())
	receives(t, x, 1, c, got(5, sent(b, 0)))
	receives(t, x, 1, c, got(6))
	receives(t, x, 1, c, blocked())
	refuses(t, x, 1, c, api.ErrWaits)
	sends(t, x, 1, a, 7, passed(handed(c, 0, 7)))
	tells(t, "behind the example", x, open(1, no, no))
}

// TestExampleClosed: the second one.
func TestExampleClosed(t *testing.T) {
	x := fresh(t, 1, 0)
	sends(t, x, 2, a, 1, blocked())
	closes(t, x, 2, api.Moved{Woken: []api.Woken{broken(a, 0)}})
	closes(t, x, 2, trapped(api.TrapClosed))
	receives(t, x, 2, b, api.Moved{})
	sends(t, x, 2, b, 1, trapped(api.TrapSend))
	closes(t, x, 0, trapped(api.TrapNil))
	sends(t, x, 0, b, 1, blocked())
	tells(t, "behind the example", x, open(1, no, no), shut(0))
}

// TestExampleTraps: the third one.
func TestExampleTraps(t *testing.T) {
	x := fresh(t)
	fails(t, x, -1, api.TrapBuffer)
	fails(t, x, 1025, api.TrapBuffer)
	if n, trap := x.Len(9); n != 0 || trap != api.TrapChan {
		t.Errorf("Len(9): %d, %d", n, trap)
	}
	if n, trap := x.Len(0); n != 0 || trap != api.TrapNone {
		t.Errorf("Len(0): %d, %d", n, trap)
	}
	goes(t, x, 0, false, false)
	tells(t, "behind the example", x)
}

// TestMake: H1: handles from 1 on, each channel with its capacity, open and empty; what is refused makes none.
func TestMake(t *testing.T) {
	x := fresh(t)
	tells(t, "New", x)
	makes(t, x, 0, 1)
	for _, capacity := range []int64{-1, -2, most + 1, most + 2, 1 << 32, -1 << 32, 1<<32 + 1, math.MaxInt64, math.MinInt64} {
		fails(t, x, capacity, api.TrapBuffer)
	}
	makes(t, x, 1, 2)
	makes(t, x, most, 3)
	makes(t, x, most-1, 4)
	makes(t, x, 0, 5)
	tells(t, "Make", x, open(0, no, no), open(1, no, no), open(most, no, no), open(most-1, no, no), open(0, no, no))
}

// TestMostChannels: H1: 1024 of them, and no more, closed ones too.
func TestMostChannels(t *testing.T) {
	x := fresh(t)
	for n := range int64(most) {
		makes(t, x, n%3, n+1)
	}
	closes(t, x, 7, api.Moved{})
	for _, capacity := range []int64{0, 1, most, -1, most + 1} {
		fails(t, x, capacity, api.TrapBuffer)
	}
	if l := x.State(); len(l) != most {
		t.Errorf("State has %d channels", len(l))
	}
	sends(t, x, most, a, 3, blocked())
	receives(t, x, most, b, got(3, sent(a, 0)))
	sends(t, x, most+1, a, 3, trapped(api.TrapChan))
	loaded := load(t, x.State()...)
	fails(t, loaded, 0, api.TrapBuffer)
	loaded = load(t, x.State()[1:]...)
	makes(t, loaded, 9, most)
	fails(t, loaded, 9, api.TrapBuffer)
}

// TestLenAndCap: H1: of nil 0; of no channel TrapChan; and of channels in each state.
func TestLenAndCap(t *testing.T) {
	state := []api.ChanState{
		open(0, no, no),
		open(3, no, no),
		open(3, no, no, 8),
		open(3, all(waiting(a, 0, 1)), no, 5, 6, 7),
		open(2, no, all(waiting(b, 0, 0))),
		shut(4),
		shut(4, 1, 2, 3),
		open(most, no, no, numbers(1, most)...),
	}
	for n := range state {
		x := load(t, state[:n+1]...)
		tells(t, "Load", x, state[:n+1]...)
		for _, ch := range noChannels(int64(n + 1)) {
			if n, trap := x.Len(ch); n != 0 || trap != api.TrapChan {
				t.Errorf("Len(%d): %d, %d", ch, n, trap)
			}
			if n, trap := x.Cap(ch); n != 0 || trap != api.TrapChan {
				t.Errorf("Cap(%d): %d, %d", ch, n, trap)
			}
		}
		if n, trap := x.Len(0); n != 0 || trap != api.TrapNone {
			t.Errorf("Len(0): %d, %d", n, trap)
		}
		if n, trap := x.Cap(0); n != 0 || trap != api.TrapNone {
			t.Errorf("Cap(0): %d, %d", n, trap)
		}
	}
}

// TestGoes: H2: of nil, of no channel, and of channels in each state; nothing changes.
func TestGoes(t *testing.T) {
	for _, at := range []struct {
		what       string
		s          api.ChanState
		send, recv bool
	}{
		{"nothing to hold", open(0, no, no), false, false},
		{"nothing to hold, a sender", open(0, all(waiting(a, 0, 1)), no), false, true},
		{"nothing to hold, a receiver", open(0, no, all(waiting(a, 0, 0))), true, false},
		{"nothing to hold, one that does both", open(0, all(waiting(a, 0, 1)), all(waiting(a, 1, 0))), true, true},
		{"empty", open(2, no, no), true, false},
		{"empty, a receiver", open(2, no, all(waiting(a, 0, 0))), true, false},
		{"half full", open(2, no, no, 5), true, true},
		{"full", open(2, no, no, 5, 6), false, true},
		{"full, a sender", open(2, all(waiting(a, 0, 1)), no, 5, 6), false, true},
		{"closed, nothing to hold", shut(0), true, true},
		{"closed, empty", shut(2), true, true},
		{"closed, half full", shut(2, 5), true, true},
		{"closed, full", shut(2, 5, 6), true, true},
	} {
		x := load(t, open(1, no, no), at.s)
		goes(t, x, 2, at.send, at.recv)
		goes(t, x, 0, false, false)
		for _, ch := range noChannels(2) {
			for _, send := range []bool{false, true} {
				if yes, trap := x.Goes(ch, send); yes || trap != api.TrapChan {
					t.Errorf("Goes(%d, %v): %v, %d", ch, send, yes, trap)
				}
			}
		}
		tells(t, at.what+", behind Goes", x, open(1, no, no), at.s)
		m, _ := x.Send(2, e, 9)
		if m.Waits == at.send {
			t.Errorf("%s: Goes tells of a send %v, and it does %+v", at.what, at.send, m)
		}
		m, _ = load(t, at.s).Recv(1, e)
		if m.Waits == at.recv {
			t.Errorf("%s: Goes tells of a receive %v, and it does %+v", at.what, at.recv, m)
		}
	}
}

// TestSend: H3: on channels in each state.
func TestSend(t *testing.T) {
	for _, at := range []struct {
		what   string
		before api.ChanState
		want   api.Moved
		after  api.ChanState
	}{
		{"nothing to hold", open(0, no, no), blocked(), open(0, all(waiting(e, 0, 9)), no)},
		{"a sender", open(0, all(waiting(a, 2, 1)), no), blocked(), open(0, all(waiting(a, 2, 1), waiting(e, 0, 9)), no)},
		{"a receiver", open(0, no, all(waiting(a, 0, 0))), passed(handed(a, 0, 9)), open(0, no, no)},
		{"several receivers", open(0, no, all(waiting(c, 4, 0), waiting(a, -1, 0), waiting(b, 1, 0))), passed(handed(c, 4, 9)), open(0, no, all(waiting(a, -1, 0), waiting(b, 1, 0)))},
		{"one receiver in several places", open(0, no, all(waiting(c, 4, 0), waiting(a, 0, 0), waiting(c, 5, 0))), passed(handed(c, 4, 9)), open(0, no, all(waiting(a, 0, 0)))},
		{"one that does both", open(0, all(waiting(c, 1, 3)), all(waiting(c, 2, 0))), passed(handed(c, 2, 9)), open(0, no, no)},
		{"room and a receiver", open(2, no, all(waiting(a, 3, 0))), passed(handed(a, 3, 9)), open(2, no, no)},
		{"empty", open(2, no, no), passed(), open(2, no, no, 9)},
		{"room for one", open(2, no, no, 5), passed(), open(2, no, no, 5, 9)},
		{"full", open(2, no, no, 5, 6), blocked(), open(2, all(waiting(e, 0, 9)), no, 5, 6)},
		{"full, senders", open(1, all(waiting(b, 1, 2), waiting(a, 0, 3)), no, 5), blocked(), open(1, all(waiting(b, 1, 2), waiting(a, 0, 3), waiting(e, 0, 9)), no, 5)},
		{"the greatest, room for one", open(most, no, no, numbers(1, most-1)...), passed(), open(most, no, no, append(numbers(1, most-1), 9)...)},
		{"the greatest, full", open(most, no, no, numbers(1, most)...), blocked(), open(most, all(waiting(e, 0, 9)), no, numbers(1, most)...)},
		{"closed", shut(0), trapped(api.TrapSend), shut(0)},
		{"closed, room", shut(2, 5), trapped(api.TrapSend), shut(2, 5)},
		{"closed, full", shut(1, 5), trapped(api.TrapSend), shut(1, 5)},
	} {
		other := open(1, no, no, 77)
		x := load(t, other, at.before, other)
		sends(t, x, 2, e, 9, at.want)
		tells(t, at.what+": Send", x, other, at.after, other)
	}
}

// TestRecv: H4: from channels in each state.
func TestRecv(t *testing.T) {
	for _, at := range []struct {
		what   string
		before api.ChanState
		want   api.Moved
		after  api.ChanState
	}{
		{"nothing to hold", open(0, no, no), blocked(), open(0, no, all(waiting(e, 0, 0)))},
		{"empty", open(2, no, no), blocked(), open(2, no, all(waiting(e, 0, 0)))},
		{"receivers", open(2, no, all(waiting(a, 3, 0), waiting(b, 0, 0))), blocked(), open(2, no, all(waiting(a, 3, 0), waiting(b, 0, 0), waiting(e, 0, 0)))},
		{"a value", open(2, no, no, 5), got(5), open(2, no, no)},
		{"full", open(2, no, no, 5, 6), got(5), open(2, no, no, 6)},
		{"full, a sender", open(2, all(waiting(a, 7, 8)), no, 5, 6), got(5, sent(a, 7)), open(2, no, no, 6, 8)},
		{"full, senders", open(1, all(waiting(c, 0, 0), waiting(a, 1, 8)), no, 5), got(5, sent(c, 0)), open(1, all(waiting(a, 1, 8)), no, 0)},
		{"full, one sender in several places", open(1, all(waiting(c, 3, 7), waiting(a, 1, 8), waiting(c, 2, 6)), no, 5), got(5, sent(c, 3)), open(1, all(waiting(a, 1, 8)), no, 7)},
		{"a sender", open(0, all(waiting(a, 7, 8)), no), got(8, sent(a, 7)), open(0, no, no)},
		{"a sender of 0", open(0, all(waiting(a, -7, 0)), no), got(0, sent(a, -7)), open(0, no, no)},
		{"senders", open(0, all(waiting(d, 1, 8), waiting(a, 0, 7)), no), got(8, sent(d, 1)), open(0, all(waiting(a, 0, 7)), no)},
		{"one that does both", open(0, all(waiting(c, 1, 3)), all(waiting(c, 2, 0))), got(3, sent(c, 1)), open(0, no, no)},
		{"the greatest, full, a sender", open(most, all(waiting(a, 0, -1)), no, numbers(1, most)...), got(1, sent(a, 0)), open(most, no, no, append(numbers(2, most-1), -1)...)},
		{"closed, nothing to hold", shut(0), api.Moved{}, shut(0)},
		{"closed, empty", shut(2), api.Moved{}, shut(2)},
		{"closed, a value", shut(2, 5), got(5), shut(2)},
		{"closed, a value of 0", shut(2, 0, 6), got(0), shut(2, 6)},
	} {
		other := open(1, no, no, 77)
		x := load(t, other, at.before, other)
		receives(t, x, 2, e, at.want)
		tells(t, at.what+": Recv", x, other, at.after, other)
	}
}

// TestClose: H5: channels in each state.
func TestClose(t *testing.T) {
	for _, at := range []struct {
		what   string
		before api.ChanState
		want   api.Moved
		after  api.ChanState
	}{
		{"nobody", open(0, no, no), api.Moved{}, shut(0)},
		{"nobody, empty", open(3, no, no), api.Moved{}, shut(3)},
		{"nobody, values", open(3, no, no, 1, 2), api.Moved{}, shut(3, 1, 2)},
		{"a receiver", open(3, no, all(waiting(a, 2, 0))), api.Moved{Woken: []api.Woken{ended(a, 2)}}, shut(3)},
		{"receivers", open(0, no, all(waiting(d, 0, 0), waiting(a, 1, 0), waiting(b, 9, 0))), api.Moved{Woken: []api.Woken{ended(d, 0), ended(a, 1), ended(b, 9)}}, shut(0)},
		{"a sender", open(0, all(waiting(a, 2, 4)), no), api.Moved{Woken: []api.Woken{broken(a, 2)}}, shut(0)},
		{"senders, values", open(2, all(waiting(d, 2, 4), waiting(a, 0, 5)), no, 1, 2), api.Moved{Woken: []api.Woken{broken(d, 2), broken(a, 0)}}, shut(2, 1, 2)},
		{"a receiver in several places", open(0, no, all(waiting(d, 3, 0), waiting(a, 1, 0), waiting(d, 2, 0), waiting(a, 0, 0))), api.Moved{Woken: []api.Woken{ended(d, 3), ended(a, 1)}}, shut(0)},
		{"a sender in several places", open(0, all(waiting(d, 3, 7), waiting(a, 1, 6), waiting(d, 2, 5)), no), api.Moved{Woken: []api.Woken{broken(d, 3), broken(a, 1)}}, shut(0)},
		{"one that does both", open(0, all(waiting(d, 0, 7), waiting(d, 1, 8)), all(waiting(d, 3, 0), waiting(d, 2, 0))), api.Moved{Woken: []api.Woken{ended(d, 3)}}, shut(0)},
		{"closed", shut(0), trapped(api.TrapClosed), shut(0)},
		{"closed, values", shut(3, 1, 2), trapped(api.TrapClosed), shut(3, 1, 2)},
	} {
		other := open(1, no, no, 77)
		x := load(t, other, at.before, other)
		closes(t, x, 2, at.want)
		tells(t, at.what+": Close", x, other, at.after, other)
		closes(t, x, 2, trapped(api.TrapClosed))
		tells(t, at.what+": Close again", x, other, at.after, other)
	}
}

// TestNil: H3, H4, H5: on no channel one waits for ever, in no place, as often as it likes; and it can't be closed.
func TestNil(t *testing.T) {
	for _, x := range []*channel.Chans{fresh(t), fresh(t, 0, 2)} {
		want := x.State()
		for range 2 {
			for _, g := range everybody() {
				sends(t, x, 0, g, 4, blocked())
				receives(t, x, 0, g, blocked())
				leaves(t, x, g, 0)
			}
			closes(t, x, 0, trapped(api.TrapNil))
		}
		tells(t, "nil", x, want...)
	}
}

// TestNoSuchChannel: H3, H4, H5: TrapChan, and nothing is done.
func TestNoSuchChannel(t *testing.T) {
	x := fresh(t)
	for n := range int64(4) {
		want := x.State()
		for _, ch := range noChannels(n) {
			if ch == 0 {
				continue
			}
			sends(t, x, ch, a, 4, trapped(api.TrapChan))
			receives(t, x, ch, a, trapped(api.TrapChan))
			closes(t, x, ch, trapped(api.TrapChan))
		}
		tells(t, "no such channel", x, want...)
		makes(t, x, n%2, n+1)
	}
}

// TestOneThatWaits: H3, H4: ErrWaits ahead of all else, whichever channel it waits on, and whichever it asks for; nothing is done.
func TestOneThatWaits(t *testing.T) {
	state := []api.ChanState{
		open(0, all(waiting(a, 0, 1)), no),
		open(1, no, all(waiting(b, 0, 0))),
		open(1, all(waiting(c, 0, 1)), no, 5),
		open(0, all(waiting(d, 1, 2)), all(waiting(d, 0, 0))),
		open(2, no, no, 6),
		shut(1, 7),
	}
	x := load(t, state...)
	for _, g := range []api.Gid{a, b, c, d} {
		for _, ch := range append(noChannels(6), 0, 1, 2, 3, 4, 5, 6) {
			refuses(t, x, ch, g, api.ErrWaits)
		}
	}
	tells(t, "ErrWaits", x, state...)
	// Those that have the slot, or the generation, of one that waits are others.
	sends(t, x, 5, e, 1, passed())
	receives(t, x, 5, api.Gid{Slot: 0, Gen: 2}, got(6))
	receives(t, x, 5, api.Gid{Slot: 3, Gen: 1}, got(1))
	receives(t, x, 5, api.Gid{Slot: 1, Gen: 0}, blocked())
}

// TestValuesAsTheyAre: H3, H4: each int64 is a value, handed over by the buffer, by one that waits to send, and to one that waits to receive.
func TestValuesAsTheyAre(t *testing.T) {
	for _, v := range edges() {
		x := fresh(t, 1, 0)
		sends(t, x, 1, a, v, passed())
		receives(t, x, 1, b, got(v))
		sends(t, x, 2, a, v, blocked())
		tells(t, "one that waits to send", x, open(1, no, no), open(0, all(waiting(a, 0, v)), no))
		receives(t, x, 2, b, got(v, sent(a, 0)))
		receives(t, x, 2, b, blocked())
		sends(t, x, 2, a, v, passed(handed(b, 0, v)))
	}
}

// TestToItself: H3, H4: a goroutine may send and receive by itself, one behind the other.
func TestToItself(t *testing.T) {
	x := fresh(t, 2)
	sends(t, x, 1, a, 3, passed())
	sends(t, x, 1, a, 4, passed())
	receives(t, x, 1, a, got(3))
	receives(t, x, 1, a, got(4))
	closes(t, x, 1, api.Moved{})
	receives(t, x, 1, a, api.Moved{})
	receives(t, x, 1, a, api.Moved{})
	tells(t, "one alone", x, shut(2))
}
