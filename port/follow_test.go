package port_test

import (
	"math/rand/v2"
	"slices"
	"testing"

	"rota/api"
	"rota/port"
)

// got is what a Get answers.
type got struct {
	v   int64
	age int
}

// heard is what the two sides of a port hear: whoever puts by Put, whoever gets by Get.
type heard struct {
	puts []bool
	gets []got
}

// hear carries calls out; the n-th call puts the value n.
func hear(p *port.Port, l []int) (h heard) {
	for n, kind := range l {
		switch kind {
		case doPut:
			h.puts = append(h.puts, p.Put(int64(n)))
		case doGet:
			v, age := p.Get()
			h.gets = append(h.gets, got{v, age})
		case doDeliver:
			p.Deliver()
		default: // a call that is left out
		}
	}
	return h
}

// leftOut is the calls of a walk without those of a kind from a place on; the others stay where they are.
func leftOut(l []int, kind, place int) []int {
	l = slices.Clone(l)
	for n := range l {
		if n >= place && l[n] == kind {
			l[n] = kinds
		}
	}
	return l
}

// lastDelivery is the place behind the last delivery of a walk.
func lastDelivery(l []int) int {
	for n := len(l); n > 0; n-- {
		if l[n-1] == doDeliver {
			return n
		}
	}
	return 0
}

// oneWay holds what one side of a walk hears against what it hears if the other one does otherwise.
func oneWay(t *testing.T, s api.PortState, l []int) heard {
	t.Helper()
	h := hear(load(t, s), l)
	if x := hear(load(t, s), leftOut(l, doGet, 0)); !slices.Equal(x.puts, h.puts) {
		t.Fatalf("of %+v Puts of %v answer %v, and %v if nobody gets", s, l, h.puts, x.puts)
	}
	if x := hear(load(t, s), leftOut(l, doPut, lastDelivery(l))); !slices.Equal(x.gets, h.gets) {
		t.Fatalf("of %+v Gets of %v answer %v, and %v without the Puts behind the last Deliver", s, l, h.gets, x.gets)
	}
	return h
}

// TestOneWay: M5: what Put answers hangs on no Get, what is got on no Put behind the last Deliver: of all walks of nine calls.
func TestOneWay(t *testing.T) {
	for _, s := range smallKinds() {
		walks(9, func(l []int) { oneWay(t, s, l) })
	}
}

// TestOneWayFromStates: M5: likewise of all walks of five calls from states.
func TestOneWayFromStates(t *testing.T) {
	for _, s := range states() {
		walks(5, func(l []int) { oneWay(t, s, l) })
	}
}

// drawnWalk is a walk by chance.
func drawnWalk(r *rand.Rand, n, gets int) []int {
	l := make([]int, n)
	for i := range l {
		switch x := r.IntN(gets + 12); {
		case x < gets:
			l[i] = doGet
		case x > gets:
			l[i] = doPut
		default:
			l[i] = doDeliver
		}
	}
	return l
}

// TestOneWayLong: M5: likewise of long walks, in which Puts are refused, and in which nothing is to be got.
func TestOneWayLong(t *testing.T) {
	refused, nothing := 0, 0
	for seed := range uint64(40) {
		r := rand.New(rand.NewPCG(seed, 51))
		for _, capacity := range []int{1, 2, 5, 12, 40} {
			l := drawnWalk(r, 500, []int{2, 8, 20}[seed%3])
			h := oneWay(t, queued(capacity, nil, nil, 0), l)
			for _, yes := range h.puts {
				if !yes {
					refused++
				}
			}
			for _, x := range h.gets {
				if x.age < 0 {
					nothing++
				}
			}
			oneWay(t, sampled(nil, nil), l)
		}
	}
	if refused < 1000 || nothing < 1000 {
		t.Errorf("%d were refused, %d got nothing: too few to tell anything", refused, nothing)
	}
}

// TestOutHangsOnNoGet: M5: nor does Out, at any place of a walk.
func TestOutHangsOnNoGet(t *testing.T) {
	for seed := range uint64(20) {
		r := rand.New(rand.NewPCG(seed, 52))
		for _, capacity := range []int{1, 2, 9} {
			x, y := made(t, true, capacity), made(t, true, capacity)
			for n, kind := range drawnWalk(r, 300, 10) {
				switch kind {
				case doGet:
					x.Get()
				case doPut:
					puts(t, "without Gets", y, int64(n), x.Put(int64(n)))
				default:
					x.Deliver()
					y.Deliver()
				}
				if !slices.Equal(x.State().Out, y.State().Out) {
					t.Fatalf("Out is %v with Gets, %v without", x.State().Out, y.State().Out)
				}
			}
		}
	}
}

// rising tells whether each number is above the one ahead of it.
func rising(l []int64) bool {
	for n := 1; n < len(l); n++ {
		if l[n] <= l[n-1] {
			return false
		}
	}
	return true
}

// accounts holds what was put and what was got against what a queued port has: nothing is doubled, out of order, or gone unseen.
func accounts(t *testing.T, p *port.Port, put, gotten []int64) {
	t.Helper()
	s := p.State()
	all := slices.Clone(gotten)
	for _, x := range s.In {
		all = append(all, x.Value)
	}
	all = append(all, s.Out...)
	if !rising(all) {
		t.Fatalf("%v were got, In is %v, Out %v: not in the order in which they were put", gotten, s.In, s.Out)
	}
	for _, v := range all {
		if !slices.Contains(put, v) {
			t.Fatalf("%d was never put", v)
		}
	}
	if len(all)+s.Lost != len(put) {
		t.Fatalf("%d were put, %d were got or are there, %d are lost", len(put), len(all), s.Lost)
	}
}

// follow carries a walk out on a queued port; the values that are put rise. It tells how many were lost.
func follow(t *testing.T, capacity int, l []int) int {
	t.Helper()
	p := made(t, true, capacity)
	var put, gotten []int64
	for n, kind := range l {
		switch kind {
		case doPut:
			if p.Put(int64(n)) {
				put = append(put, int64(n))
			}
		case doGet:
			if v, age := p.Get(); age >= 0 {
				gotten = append(gotten, v)
			}
		default:
			p.Deliver()
		}
	}
	accounts(t, p, put, gotten)
	return p.State().Lost
}

// TestQueuedInOrder: M6: of all short and some long walks.
func TestQueuedInOrder(t *testing.T) {
	for capacity := 1; capacity <= 3; capacity++ {
		walks(9, func(l []int) { follow(t, capacity, l) })
	}
	lost := 0
	for seed := range uint64(40) {
		r := rand.New(rand.NewPCG(seed, 53))
		for _, capacity := range []int{1, 2, 5, 12, 40, buffer} {
			lost += follow(t, capacity, drawnWalk(r, 700, []int{2, 8, 20}[seed%3]))
		}
	}
	if lost < 1000 {
		t.Errorf("%d were lost: too few to tell anything", lost)
	}
}

// TestQueuedKeepsItsPlace: M6: who is got keeps the age of its own delivery, whatever was lost, got or put since.
func TestQueuedKeepsItsPlace(t *testing.T) {
	for seed := range uint64(40) {
		r := rand.New(rand.NewPCG(seed, 54))
		p, deliveries := made(t, true, 4), 0
		var since []int64 // what was put, by deliveries: each value is the number of deliveries ahead of it
		for _, kind := range drawnWalk(r, 600, 4) {
			switch kind {
			case doPut:
				if p.Put(int64(deliveries)) {
					since = append(since, int64(deliveries))
				}
			case doGet:
				if v, age := p.Get(); age >= 0 && age != deliveries-int(v)-1 {
					t.Fatalf("put behind %d deliveries, got behind %d, with the age %d", v, deliveries, age)
				}
			default:
				p.Deliver()
				deliveries++
			}
		}
		if len(since) < 50 || deliveries < 10 {
			t.Errorf("%d were put, %d deliveries: too few to tell anything", len(since), deliveries)
		}
	}
}

// TestSampledIsTheLast: M6: what is got is the last value put ahead of the last delivery before which one was put, as old as that.
func TestSampledIsTheLast(t *testing.T) {
	each := func(l []int) {
		p := made(t, false, 1)
		last, brought := got{0, -1}, got{0, -1}
		for n, kind := range l {
			switch kind {
			case doPut:
				puts(t, "sampled", p, int64(n), true)
				last = got{int64(n), 0}
			case doDeliver:
				p.Deliver()
				if brought.age >= 0 {
					brought.age++
				}
				if last.age == 0 {
					brought, last = last, got{0, -1}
				}
			}
			if kind != doPut || n%2 == 0 {
				gets(t, "sampled", p, brought.v, brought.age)
			}
		}
	}
	walks(9, each)
	for seed := range uint64(40) {
		each(drawnWalk(rand.New(rand.NewPCG(seed, 55)), 500, int(seed)))
	}
}
