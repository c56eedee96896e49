package choose_test

import (
	"math"
	"slices"
	"testing"

	"rota/api"
	"rota/channel"
)

// TestExampleBothSides: the chapter's second example: whatever is drawn.
func TestExampleBothSides(t *testing.T) {
	for _, first := range []uint64{0, 1, 7, greatest} {
		for _, second := range []uint64{0, 1, 2, 3, greatest} {
			x := load(t, open(1, no, no))
			both := of(recv(1), send(1, 5))
			selects(t, x, both, false, drawn(first, second), went(1, passed()))
			tells(t, "the send went on", x, open(1, no, no, 5))
			selects(t, x, both, false, drawn(first, second), went(0, got(5)))
			tells(t, "the receive went on", x, open(1, no, no))
		}
	}
}

// TestExampleWaits: the third one.
func TestExampleWaits(t *testing.T) {
	x := load(t, open(0, no, no))
	two := of(recv(0), recv(1))
	selects(t, x, two, true, zeros(2), byDefault())
	tells(t, "a default", x, open(0, no, no))
	selects(t, x, two, false, zeros(2), blocked())
	tells(t, "it waits", x, open(0, no, all(waiting(me, 1, 0))))
	if m, e := x.Send(1, a, 9); !sameMove(m, passed(handed(me, 1, 9))) || e != api.OK {
		t.Errorf("Send: %+v, %d", m, e)
	}
	tells(t, "it is woken", x, open(0, no, no))
}

// TestExampleTraps: the fourth one.
func TestExampleTraps(t *testing.T) {
	x := load(t, shut(0))
	selects(t, x, of(send(1, 3)), false, zeros(1), went(0, broken()))
	selects(t, x, of(recv(77)), false, zeros(1), noChannel())
	selects(t, x, nil, false, nil, blocked())
	selects(t, x, nil, true, nil, byDefault())
	tells(t, "behind the example", x, shut(0))
}

// TestNoCase: S3: of no case, however many numbers are drawn: the default, or it waits in no place, so that it may select again.
func TestNoCase(t *testing.T) {
	state := []api.ChanState{open(1, no, no, 5), open(0, all(waiting(a, 3, 7)), no), shut(0)}
	for _, l := range [][]api.Pick{nil, {}} {
		for _, draws := range [][]uint64{nil, {}, {0}, {greatest, 1}} {
			x := load(t, state...)
			selects(t, x, l, true, draws, byDefault())
			selects(t, x, l, false, draws, blocked())
			selects(t, x, l, false, draws, blocked())
			tells(t, "no case", x, state...)
		}
	}
}

// TestNilAlone: S3: cases of nil never go on, and nobody waits for them.
func TestNilAlone(t *testing.T) {
	state := []api.ChanState{open(1, no, no, 5), open(3, no, no), shut(0)}
	for n := 1; n <= most; n++ {
		mixed := nils(n)
		for i := range mixed {
			mixed[i].Send, mixed[i].Value = i%2 == 0, int64(i)
		}
		for _, l := range [][]api.Pick{nils(n), repeated(n, send(0, 9)), mixed} {
			x := load(t, state...)
			selects(t, x, l, true, zeros(n), byDefault())
			selects(t, x, l, false, zeros(n), blocked())
			selects(t, x, l, false, zeros(n), blocked())
			tells(t, "nil alone", x, state...)
		}
	}
}

// TestOneCase: S3: a select of one case does what the plain call does, with its value; where that would wait, the default goes on, if there is one.
func TestOneCase(t *testing.T) {
	for _, v := range []int64{0, 1, -1, 5, math.MaxInt64, math.MinInt64} {
		for _, at := range []struct {
			state, behind api.ChanState
			p             api.Pick
			m             api.Moved
		}{
			{open(1, no, no), open(1, no, no, v), send(1, v), passed()},
			{open(2, no, no, 8), open(2, no, no, 8, v), send(1, v), passed()},
			{open(0, no, all(waiting(a, 4, 0), waiting(b, 0, 0))), open(0, no, all(waiting(b, 0, 0))), send(1, v), passed(handed(a, 4, v))},
			{shut(2, 8), shut(2, 8), send(1, v), broken()},
			{open(2, no, no, v, 8), open(2, no, no, 8), recv(1), got(v)},
			{open(1, all(waiting(a, 4, 6), waiting(b, 0, 7)), no, v), open(1, all(waiting(b, 0, 7)), no, 6), recv(1), got(v, sent(a, 4))},
			{open(0, all(waiting(a, 4, v), waiting(b, 0, 7)), no), open(0, all(waiting(b, 0, 7)), no), recv(1), got(v, sent(a, 4))},
			{shut(2, v), shut(2), recv(1), got(v)},
			{shut(2), shut(2), recv(1), empty()},
			// A receive's value is not looked at.
			{open(1, no, no, v), open(1, no, no), api.Pick{Chan: 1, Value: 99}, got(v)},
		} {
			for _, def := range []bool{false, true} {
				x := load(t, at.state)
				selects(t, x, of(at.p), def, drawn(greatest), went(0, at.m))
				tells(t, "one case", x, at.behind)
			}
		}
	}
}

// TestOneCaseWaits: S3: it waits behind the others, with its case and, if it sends, its value.
func TestOneCaseWaits(t *testing.T) {
	others := all(waiting(a, 4, 6), waiting(b, 0, 7))
	receivers := all(waiting(a, 4, 0), waiting(b, 0, 0))
	for _, at := range []struct {
		state, behind api.ChanState
		p             api.Pick
	}{
		{open(0, no, no), open(0, all(waiting(me, 0, 5)), no), send(1, 5)},
		{open(1, no, no, 8), open(1, all(waiting(me, 0, -5)), no, 8), send(1, -5)},
		{open(0, others, no), open(0, append(others, waiting(me, 0, 0)), no), send(1, 0)},
		{open(0, no, no), open(0, no, all(waiting(me, 0, 0))), recv(1)},
		{open(3, no, receivers), open(3, no, append(receivers, waiting(me, 0, 0))), recv(1)},
		{open(3, no, no), open(3, no, all(waiting(me, 0, 0))), api.Pick{Chan: 1, Value: 99}},
	} {
		x := load(t, at.state)
		selects(t, x, of(at.p), true, zeros(1), byDefault())
		tells(t, "one case, a default", x, at.state)
		selects(t, x, of(at.p), false, zeros(1), blocked())
		tells(t, "one case waits", x, at.behind)
		refuses(t, x, me, of(at.p), true, zeros(1), api.ErrWaits)
		tells(t, "one case waits still", x, at.behind)
	}
}

// TestFirstInTheOrder: S3: of those that go on the first in the drawn order, in every order of up to five cases, whichever of them go on.
func TestFirstInTheOrder(t *testing.T) {
	for n := 1; n <= 5; n++ {
		for _, order := range everyOrder(n) {
			draws := drawsOf(t, order)
			for set := 1; set < 1<<n; set++ {
				var state []api.ChanState
				var l []api.Pick
				for i := range n {
					ch := open(1, no, no)
					if set>>i&1 == 1 {
						ch.Values = []int64{int64(10 + i)}
					}
					state, l = append(state, ch), append(l, recv(int64(i+1)))
				}
				first := order[slices.IndexFunc(order, func(i int) bool { return set>>i&1 == 1 })]
				x := load(t, state...)
				selects(t, x, l, set%2 == 0, draws, went(first, got(int64(10+first))))
				state[first].Values = nil
				tells(t, "the first in the order", x, state...)
			}
		}
	}
}

// TestMostCases: S3: 16 cases, the last, the first and each other one alone goes on, or the first of all by what is drawn.
func TestMostCases(t *testing.T) {
	var state []api.ChanState
	var l []api.Pick
	for i := range most {
		state, l = append(state, open(1, no, no)), append(l, recv(int64(i+1)))
	}
	for i := range most {
		x := load(t, state...)
		x.Send(int64(i+1), a, 7)
		selects(t, x, l, true, zeros(most), went(i, got(7)))
		selects(t, x, l, true, zeros(most), byDefault())
		tells(t, "one of 16", x, state...)
	}
	full := copyOf(state)
	for i := range full {
		full[i].Values = []int64{int64(i)}
	}
	// Drawn numbers of 0 put the last case first, and each other one a step on.
	x := load(t, full...)
	for n := range most {
		at := (most - 1 + n) % most
		selects(t, x, l, false, zeros(most), went(at, got(int64(at))))
	}
	selects(t, x, l, false, zeros(most), blocked())
	for i := range state {
		state[i].Receivers = all(waiting(me, i, 0))
	}
	tells(t, "16 cases wait", x, state...)
	refuses(t, x, a, append(l, recv(1)), true, zeros(most+1), api.ErrArg)
	tells(t, "17 cases", x, state...)
}

// TestMoreDraws: S3: draws behind those of the cases are not looked at.
func TestMoreDraws(t *testing.T) {
	for _, more := range [][]uint64{{}, {0}, {1, 2}, {greatest}, make([]uint64, 40)} {
		x := load(t, open(1, no, no, 5), open(1, no, no, 6))
		two := of(recv(1), recv(2))
		selects(t, x, two, false, append(drawn(0, 1), more...), went(0, got(5)))
		x = load(t, open(1, no, no, 5), open(1, no, no, 6))
		selects(t, x, two, false, append(drawn(0, 0), more...), went(1, got(6)))
	}
}

// TestWaitsByNumbers: S3: where nothing goes on, it waits in the order of the cases' numbers, whatever is drawn; of nil in no place.
func TestWaitsByNumbers(t *testing.T) {
	five := of(recv(1), send(2, 21), recv(0), recv(1), send(2, 24))
	for _, order := range everyOrder(5) {
		x := load(t, open(2, no, all(waiting(a, 7, 0))), open(1, all(waiting(b, 8, 3)), no, 4))
		selects(t, x, five, true, drawsOf(t, order), byDefault())
		selects(t, x, five, false, drawsOf(t, order), blocked())
		tells(t, "five cases wait", x,
			open(2, no, all(waiting(a, 7, 0), waiting(me, 0, 0), waiting(me, 3, 0))),
			open(1, all(waiting(b, 8, 3), waiting(me, 1, 21), waiting(me, 4, 24)), no, 4))
		if n := x.Leave(me); n != 4 {
			t.Errorf("it waited in %d places", n)
		}
	}
}

// TestOneChannelInSeveralCases: S3: the first in the order goes on, alone; of those that wait the first by its number.
func TestOneChannelInSeveralCases(t *testing.T) {
	three := of(send(1, 30), send(1, 31), send(1, 32))
	for _, order := range everyOrder(3) {
		draws := drawsOf(t, order)
		x := load(t, open(1, no, no))
		selects(t, x, three, false, draws, went(order[0], passed()))
		tells(t, "three sends on one channel", x, open(1, no, no, int64(30+order[0])))
		selects(t, x, three, false, draws, blocked())
		tells(t, "three sends wait", x, open(1, all(waiting(me, 0, 30), waiting(me, 1, 31), waiting(me, 2, 32)), no, int64(30+order[0])))
		if m, e := x.Recv(1, a); !sameMove(m, got(int64(30+order[0]), sent(me, 0))) || e != api.OK {
			t.Errorf("Recv: %+v, %d", m, e)
		}
		tells(t, "one of three sends was woken", x, open(1, no, no, 30))

		x = load(t, open(2, no, no, 8, 9))
		selects(t, x, repeated(3, recv(1)), false, draws, went(order[0], got(8)))
		tells(t, "three receives from one channel", x, open(2, no, no, 9))
		x.Recv(1, a)
		selects(t, x, repeated(3, recv(1)), false, draws, blocked())
		tells(t, "three receives wait", x, open(2, no, all(waiting(me, 0, 0), waiting(me, 1, 0), waiting(me, 2, 0))))
		if m, e := x.Send(1, a, 5); !sameMove(m, passed(handed(me, 0, 5))) || e != api.OK {
			t.Errorf("Send: %+v, %d", m, e)
		}
		tells(t, "one of three receives was woken", x, open(2, no, no))
	}
}

// TestSendAndReceiveOfOne: S3: a select does not meet itself: on an unbuffered channel it waits on both sides, till another one comes to either.
func TestSendAndReceiveOfOne(t *testing.T) {
	for _, order := range everyOrder(2) {
		draws := drawsOf(t, order)
		for _, at := range []struct {
			both []api.Pick
			s    api.ChanState
		}{
			{of(send(1, 5), recv(1)), open(0, all(waiting(me, 0, 5)), all(waiting(me, 1, 0)))},
			{of(recv(1), send(1, 5)), open(0, all(waiting(me, 1, 5)), all(waiting(me, 0, 0)))},
		} {
			sends := at.s.Senders[0].Case
			x := load(t, open(0, no, no))
			selects(t, x, at.both, true, draws, byDefault())
			selects(t, x, at.both, false, draws, blocked())
			tells(t, "both sides wait", x, at.s)
			// Another select of the same goes on by what is drawn: either meets the one that waits.
			want := went(sends, passed(handed(me, 1-sends, 5)))
			if order[0] != sends {
				want = went(1-sends, got(5, sent(me, sends)))
			}
			selectsBy(t, x, a, at.both, false, draws, want)
			tells(t, "both have met", x, open(0, no, no))
		}
		// Of a channel with room for more the one or the other goes on, or both could.
		x := load(t, open(2, no, no, 8))
		want, left := went(0, passed()), open(2, no, no, 8, 5)
		if order[0] == 1 {
			want, left = went(1, got(8)), open(2, no, no)
		}
		selects(t, x, of(send(1, 5), recv(1)), false, draws, want)
		tells(t, "both could go on", x, left)
	}
}

// TestClosedChannels: S3: both a send and a receive of one go on, as they do by themselves; the trap is told with its case.
func TestClosedChannels(t *testing.T) {
	for _, order := range everyOrder(4) {
		l := of(recv(0), recv(1), send(2, 5), send(1, 6))
		x := load(t, shut(1), open(0, no, no))
		first := slices.IndexFunc(order, func(n int) bool { return l[n].Chan == 1 })
		want := went(1, empty())
		if order[first] == 3 {
			want = went(3, broken())
		}
		for _, def := range []bool{true, false} {
			selects(t, x, l, def, drawsOf(t, order), want)
			tells(t, "a closed channel", x, shut(1), open(0, no, no))
		}
	}
	x := load(t, shut(2, 7, 8))
	for _, m := range []api.Moved{got(7), got(8), empty(), empty()} {
		selects(t, x, of(recv(1)), true, zeros(1), went(0, m))
	}
}

// TestCloseWakesSelect: S5: a Close that wakes a select tells its case, and a trap, if that one sends; it waits nowhere behind that.
func TestCloseWakesSelect(t *testing.T) {
	for _, at := range []struct {
		ch   int64
		want api.Woken
	}{
		{1, api.Woken{G: me, Case: 0}},
		{2, api.Woken{G: me, Case: 1, Trap: api.TrapSend}},
		{3, api.Woken{G: me, Case: 3}},
	} {
		x := load(t, open(1, no, no), open(0, no, no), open(0, no, no))
		selects(t, x, of(recv(1), send(2, 9), recv(0), recv(3)), false, zeros(4), blocked())
		want := []api.ChanState{open(1, no, no), open(0, no, no), open(0, no, no)}
		want[at.ch-1].Closed = true
		if m := x.Close(at.ch); !sameMove(m, api.Moved{Woken: []api.Woken{at.want}}) {
			t.Errorf("Close(%d): %+v", at.ch, m)
		}
		tells(t, "woken by a Close", x, want...)
	}
}

// TestWaitsAnywhere: S3: whoever waits on any channel, by a plain call or a select, is refused, the last channel and those of no case too; another one of the same slot is not.
func TestWaitsAnywhere(t *testing.T) {
	for _, g := range everybody() {
		for _, s := range []api.ChanState{open(0, all(waiting(g, 0, 3)), no), open(2, no, all(waiting(g, 5, 0)))} {
			state := []api.ChanState{open(1, no, no, 5), open(1, no, no), s}
			x := load(t, state...)
			for _, l := range [][]api.Pick{nil, nils(1), of(recv(1)), of(send(2, 1), recv(0))} {
				for _, def := range []bool{false, true} {
					refuses(t, x, g, l, def, zeros(2), api.ErrWaits)
				}
			}
			tells(t, "it waits already", x, state...)
			selectsBy(t, x, api.Gid{Slot: g.Slot, Gen: g.Gen + 7}, of(recv(1)), false, zeros(1), went(0, got(5)))
			selectsBy(t, x, api.Gid{Slot: g.Slot + 7, Gen: g.Gen}, of(send(2, 1)), false, zeros(1), went(0, passed()))
			x.Leave(g)
			selectsBy(t, x, g, of(recv(2)), false, zeros(1), went(0, got(1)))
		}
	}
}

// TestManySelects: S5: many that select from the same channels are woken one behind the other, each once.
func TestManySelects(t *testing.T) {
	const many = 300
	x := channel.New()
	for range 3 {
		x.Make(0)
	}
	for n := range many {
		selectsBy(t, x, api.Gid{Slot: n}, of(recv(3), recv(1), recv(0), recv(2)), false, drawn(1, 2, 3, uint64(n)), blocked())
	}
	numbers := []int{1, 3, 0}
	for n := range many {
		ch := n % 3
		selectsBy(t, x, d, of(send(int64(ch+1), int64(n))), false, zeros(1), went(0, passed(handed(api.Gid{Slot: n}, numbers[ch], int64(n)))))
	}
	tells(t, "many selects", x, open(0, no, no), open(0, no, no), open(0, no, no))
}
