package channel_test

import (
	"math/rand/v2"
	"slices"
	"testing"

	"rota/api"
	"rota/channel"
)

// record is what went over channels: of each the values that were sent on it and are not lost, in the order of the sends, and how many of them were received.
type record struct {
	t    *testing.T
	c    *channel.Chans
	sent map[int64][]int64
	got  map[int64]int
	next int64
	lost int
}

// newRecord is one of channels of capacities.
func newRecord(t *testing.T, capacities ...int64) *record {
	t.Helper()
	return &record{t: t, c: fresh(t, capacities...), sent: map[int64][]int64{}, got: map[int64]int{}}
}

// value is one that was not sent yet.
func (r *record) value() int64 {
	r.next++
	return r.next
}

// received holds a value against H7: it is the next of those that were sent.
func (r *record) received(ch, v int64) {
	r.t.Helper()
	n := r.got[ch]
	if n >= len(r.sent[ch]) || r.sent[ch][n] != v {
		r.t.Fatalf("channel %d: %d was received as the value %d of %v", ch, v, n, r.sent[ch])
	}
	r.got[ch]++
}

// forget takes values out of the record that a goroutine was to send and does not send any more, but for one that it sent.
func (r *record) forget(before []api.ChanState, g api.Gid, but int64) {
	for i, s := range before {
		ch := int64(i + 1)
		for _, w := range s.Senders {
			at := slices.Index(r.sent[ch], w.Value)
			if w.G == g && w.Value != but && at >= 0 {
				r.sent[ch] = slices.Delete(r.sent[ch], at, at+1)
				r.lost++
			}
		}
	}
}

// woken holds those that were woken against H9: the first that waited there, each of them, who waits nowhere behind that. It tells what the first of them was to send.
func (r *record) woken(before []api.ChanState, ch int64, l []api.Woken, queue func(api.ChanState) []api.Waiter) int64 {
	r.t.Helper()
	if len(l) == 0 {
		return 0
	}
	first := queue(before[ch-1])
	if len(l) != 1 || len(first) == 0 || first[0].G != l[0].G || first[0].Case != l[0].Case || r.c.Waits(l[0].G) {
		r.t.Fatalf("channel %d: woken: %+v of %+v", ch, l, before)
	}
	return first[0].Value
}

func (r *record) send(ch int64, g api.Gid) {
	r.t.Helper()
	before, v := r.c.State(), r.value()
	m, e := r.c.Send(ch, g, v)
	if e != api.OK || m.Trap != api.TrapNone {
		return
	}
	r.sent[ch] = append(r.sent[ch], v)
	r.woken(before, ch, m.Woken, func(s api.ChanState) []api.Waiter { return s.Receivers })
	for _, w := range m.Woken {
		r.forget(before, w.G, 0)
		r.received(ch, w.Value)
	}
}

func (r *record) recv(ch int64, g api.Gid) {
	r.t.Helper()
	before := r.c.State()
	m, _ := r.c.Recv(ch, g)
	if !m.Ok {
		return
	}
	v := r.woken(before, ch, m.Woken, func(s api.ChanState) []api.Waiter { return s.Senders })
	for _, w := range m.Woken {
		r.forget(before, w.G, v)
	}
	r.received(ch, m.Value)
}

func (r *record) close(ch int64) {
	r.t.Helper()
	before := r.c.State()
	for _, w := range r.c.Close(ch).Woken {
		r.forget(before, w.G, 0)
	}
}

// selects lets one wait to send on a channel, and to receive from another one, if nothing goes.
func (r *record) selects(to, from int64, g api.Gid) {
	r.t.Helper()
	sends, _ := r.c.Goes(to, true)
	recvs, _ := r.c.Goes(from, false)
	if r.c.Waits(g) || sends || recvs {
		return
	}
	v := r.value()
	r.sent[to] = append(r.sent[to], v)
	stands(r.t, r.c, to, waiting(g, 1, v), true, api.TrapNone)
	stands(r.t, r.c, from, waiting(g, 2, 0), false, api.TrapNone)
}

// holds holds what is there against H7 and H8: what was sent and not received is there still, in order, in the buffer and behind it; and nobody waits in vain.
func (r *record) holds() {
	r.t.Helper()
	for i, s := range r.c.State() {
		ch := int64(i + 1)
		there := slices.Clone(s.Values)
		for _, w := range s.Senders {
			there = append(there, w.Value)
		}
		if rest := r.sent[ch][r.got[ch]:]; !slices.Equal(there, rest) {
			r.t.Fatalf("channel %d: %v is there, not %v", ch, there, rest)
		}
		if len(s.Values) > s.Cap {
			r.t.Fatalf("channel %d holds %d values, more than %d", ch, len(s.Values), s.Cap)
		}
		others := slices.ContainsFunc(s.Senders, func(w api.Waiter) bool {
			return slices.ContainsFunc(s.Receivers, func(x api.Waiter) bool { return x.G != w.G })
		})
		if len(s.Receivers) > 0 && len(s.Values) > 0 || len(s.Senders) > 0 && len(s.Values) < s.Cap || others {
			r.t.Fatalf("channel %d: somebody waits in vain: %+v", ch, s)
		}
	}
}

// TestFirstInFirstOut: H7, H8, H9: what goes over channels by plain sends and receives, and by selects, of many goroutines.
func TestFirstInFirstOut(t *testing.T) {
	for seed := range uint64(30) {
		draw := rand.New(rand.NewPCG(seed, 7))
		channels := 1 + int64(seed%4)
		var caps []int64
		for range channels {
			caps = append(caps, draw.Int64N(4))
		}
		r := newRecord(t, caps...)
		for n := range 3000 {
			ch, g := 1+draw.Int64N(channels), api.Gid{Slot: draw.IntN(20), Gen: draw.IntN(2)}
			// By turns more is sent, and more received: queues are long on the one side, and then on the other.
			tide := n / 100 % 2 * 3
			switch draw := draw.IntN(10); {
			case draw < 6 && draw < 2+tide, draw == 6:
				r.send(ch, g)
			case draw < 8:
				r.recv(ch, g)
			case draw == 8:
				r.selects(ch, 1+(ch+int64(n))%channels, g)
			case n%5 == 0:
				r.forget(r.c.State(), g, 0)
				r.c.Leave(g)
			}
			r.holds()
		}
		total := 0
		for ch := range channels {
			total += r.got[ch+1]
			r.close(ch + 1)
			r.holds()
			for range caps[ch] {
				r.recv(ch+1, a2)
			}
			if r.got[ch+1] != len(r.sent[ch+1]) {
				t.Fatalf("%d values were sent on a closed channel and not lost, and %d received", len(r.sent[ch+1]), r.got[ch+1])
			}
		}
		if total < 100 || r.lost < 5 {
			t.Errorf("%d values were received, %d lost: too few to tell anything", total, r.lost)
		}
	}
}

// TestBufferGoesRound: H7: a channel of each kind of capacity is filled and emptied again and again, to its limits.
func TestBufferGoesRound(t *testing.T) {
	for _, capacity := range []int64{0, 1, 2, 3, 64, most - 1, most} {
		r := newRecord(t, capacity)
		for range 4 {
			for n := range capacity + 5 {
				r.send(1, api.Gid{Slot: int(n)})
			}
			r.holds()
			if n, _ := r.c.Len(1); n != capacity {
				t.Errorf("Len of a full one: %d, not %d", n, capacity)
			}
			for range capacity + 2 {
				r.recv(1, a)
			}
			r.holds()
			for n := range 3 {
				r.recv(1, api.Gid{Slot: n, Gen: 9})
			}
			r.holds()
		}
		if want := int(4 * (capacity + 5)); r.got[1] != want {
			t.Errorf("%d values were received, not %d", r.got[1], want)
		}
	}
}

// TestWhoWaitsLongest: H9: many that wait, on both sides, are woken one behind the other, in the order in which they came.
func TestWhoWaitsLongest(t *testing.T) {
	const many = 500
	x := fresh(t, 0, 3)
	for ch := range int64(2) {
		for n := range many {
			receives(t, x, ch+1, api.Gid{Slot: n * 7 % many}, blocked())
		}
		for n := range many {
			sends(t, x, ch+1, a, int64(n), passed(handed(api.Gid{Slot: n * 7 % many}, 0, int64(n))))
		}
		held, _ := x.Cap(ch + 1)
		for n := range held {
			sends(t, x, ch+1, a, n, passed())
		}
		for n := range many {
			sends(t, x, ch+1, api.Gid{Slot: n * 11 % many}, held+int64(n), blocked())
		}
		for n := range many {
			receives(t, x, ch+1, a, got(int64(n), sent(api.Gid{Slot: n * 11 % many}, 0)))
		}
	}
}

// TestManyThatSelect: H9: of many that wait on the same channels each is woken once, and from all of them, by a Close too.
func TestManyThatSelect(t *testing.T) {
	const many = 1000
	x := fresh(t, 0, 0, 0)
	for n := range many {
		for ch := range int64(3) {
			stands(t, x, ch+1, waiting(api.Gid{Slot: n}, int(ch), 0), false, api.TrapNone)
		}
	}
	for n := range 300 {
		sends(t, x, int64(1+n%3), a2, 4, passed(handed(api.Gid{Slot: n}, n%3, 4)))
	}
	m := x.Close(2)
	for n, w := range m.Woken {
		if w != ended(api.Gid{Slot: 300 + n}, 1) {
			t.Fatalf("Close: the one behind %d woken: %+v", n, w)
		}
	}
	if len(m.Woken) != many-300 {
		t.Errorf("Close: %d were woken", len(m.Woken))
	}
	tells(t, "many that selected", x, open(0, no, no), shut(0), open(0, no, no))
}

// a2 is none of the many.
var a2 = api.Gid{Slot: -2, Gen: 2}
