package port_test

import (
	"math"
	"testing"

	"rota/api"
	"rota/port"
)

// mayNot is capacities that no port may have.
func mayNot() []int {
	return []int{0, -1, -2, -1024, math.MinInt, math.MinInt32, buffer + 1, buffer + 2, 2 * buffer, 1 << 16, math.MaxInt32, math.MaxInt}
}

// between is capacities that a queued port alone may have.
func between() []int { return []int{2, 3, 63, 64, 65, 511, 512, buffer - 1, buffer} }

// TestNew: M1: a port in which nothing is, of each capacity that may be.
func TestNew(t *testing.T) {
	for capacity := 1; capacity <= buffer; capacity++ {
		p := made(t, true, capacity)
		stands(t, "New", p, queued(capacity, nil, nil, 0))
		gets(t, "New", p, 0, -1)
	}
	p := made(t, false, 1)
	stands(t, "New", p, sampled(nil, nil))
	gets(t, "New", p, 0, -1)
}

// TestNewOfWrongCapacity: M1: ErrArg, and no port.
func TestNewOfWrongCapacity(t *testing.T) {
	refused := func(queue bool, capacity int) {
		t.Helper()
		if p, e := port.New(queue, capacity); p != nil || e != api.ErrArg {
			t.Errorf("New(%v, %d): %v, %d, not %d", queue, capacity, p, e, api.ErrArg)
		}
	}
	for _, capacity := range mayNot() {
		refused(true, capacity)
		refused(false, capacity)
	}
	for _, capacity := range between() {
		refused(false, capacity)
		made(t, true, capacity)
	}
}

// TestLoad: M1: states that may be are told again.
func TestLoad(t *testing.T) {
	for _, s := range states() {
		stands(t, "Load", load(t, s), s)
		stands(t, "Load of what was told", load(t, load(t, s).State()), s)
	}
	for _, s := range []api.PortState{
		sampled([]int64{}, []api.Aged{}),
		queued(3, []int64{}, []api.Aged{}, 0),
		queued(3, nil, ages(1, 2, 2, 1, 3, 0), 0),
		queued(3, nil, ages(1, most, 1, most, 1, 0), 0),
		queued(3, nil, ages(1, 0, 1, 0, 1, 0), 1),
		sampled(nil, ages(1, most-1)),
		queued(1, nil, ages(1, most-1), most-1),
	} {
		stands(t, "Load", load(t, s), s)
	}
	for _, capacity := range between() {
		for _, s := range []api.PortState{
			queued(capacity, from(1, capacity), agedFrom(1, capacity, 0), 0),
			queued(capacity, from(1, capacity-1), agedFrom(1, capacity, most), 2),
			queued(capacity, nil, agedFrom(1, capacity-1, 1), most),
		} {
			stands(t, "Load", load(t, s), s)
		}
	}
}

// TestLoadedGoesOn: M1: a port that was loaded goes on as one that came to that state.
func TestLoadedGoesOn(t *testing.T) {
	p := made(t, true, 3)
	for v := range int64(4) {
		p.Put(v)
	}
	p.Deliver()
	p.Get()
	p.Put(10)
	p.Deliver()
	p.Put(11)
	x := load(t, p.State())
	for _, p := range []*port.Port{p, x} {
		stands(t, "then", p, queued(3, values(11), ages(1, 1, 2, 1, 10, 0), 0))
		p.Deliver()
		stands(t, "going on", p, queued(3, nil, ages(1, 2, 2, 2, 10, 1), 1))
		gets(t, "going on", p, 1, 2)
	}
	p = made(t, false, 1)
	p.Put(5)
	p.Deliver()
	p.Put(6)
	x = load(t, p.State())
	for _, p := range []*port.Port{p, x} {
		gets(t, "going on", p, 5, 0)
		p.Deliver()
		gets(t, "going on", p, 6, 0)
	}
}

// wrong asks Load for ErrPort.
func wrong(t *testing.T, what string, s api.PortState) {
	t.Helper()
	was := copyOf(s)
	if p, e := port.Load(s); p != nil || e != api.ErrPort {
		t.Errorf("%s: Load(%+v): %v, %d, not %d", what, s, p, e, api.ErrPort)
	}
	if !same(s, was) {
		t.Errorf("%s: the state that was refused has changed: %+v, not %+v", what, s, was)
	}
}

// TestLoadOfWrongCapacity: M1: nothing else is wrong.
func TestLoadOfWrongCapacity(t *testing.T) {
	for _, capacity := range mayNot() {
		wrong(t, "a capacity of nobody", queued(capacity, nil, nil, 0))
		wrong(t, "a capacity of nobody", api.PortState{Cap: capacity})
	}
	for _, capacity := range []int{buffer + 1, math.MaxInt} {
		wrong(t, "a capacity of nobody", queued(capacity, values(1), ages(2, 3), 4))
		wrong(t, "a capacity of nobody", api.PortState{Cap: capacity, Out: values(1), In: ages(2, 3)})
	}
	for _, capacity := range between() {
		wrong(t, "a capacity of queued ports", api.PortState{Cap: capacity})
		wrong(t, "a capacity of queued ports", api.PortState{Cap: capacity, Out: values(1), In: ages(2, 3)})
	}
}

// TestLoadOfTooMany: M1: more than Cap in Out alone, and in In alone.
func TestLoadOfTooMany(t *testing.T) {
	for _, more := range []int{1, 2, 1024, 1 << 16} {
		wrong(t, "Out of a sampled port", sampled(from(1, 1+more), nil))
		wrong(t, "In of a sampled port", sampled(nil, agedFrom(1, 1+more, 0)))
		for _, capacity := range []int{1, 2, 3, 64, buffer - 1, buffer} {
			wrong(t, "Out", queued(capacity, from(1, capacity+more), nil, 0))
			wrong(t, "Out, and In is full", queued(capacity, from(1, capacity+more), agedFrom(1, capacity, 0), 0))
			wrong(t, "In", queued(capacity, nil, agedFrom(1, capacity+more, 0), 0))
			wrong(t, "In, and Out is full", queued(capacity, from(1, capacity), agedFrom(1, capacity+more, 0), 0))
		}
	}
}

// noAges is numbers that are no age, and no number of lost values.
func noAges() []int64 {
	return []int64{-1, -2, math.MinInt32, math.MinInt64, most + 1, most + 2, 1 << 32, math.MaxInt64}
}

// TestLoadOfWrongAge: M1: one age that is none, wherever it stands; the ages do not rise there.
func TestLoadOfWrongAge(t *testing.T) {
	for _, age := range noAges() {
		wrong(t, "the one age", sampled(nil, ages(1, age)))
		wrong(t, "the one age", sampled(values(1), ages(1, age)))
		wrong(t, "the one age", queued(1, nil, ages(1, age), 0))
		wrong(t, "the one age, with room", queued(3, nil, ages(1, age), 0))
		if age < 0 {
			wrong(t, "the last age", queued(3, nil, ages(1, most, 2, 0, 3, age), 0))
			wrong(t, "all ages", queued(3, nil, ages(1, age, 2, age, 3, age), 0))
		} else {
			wrong(t, "the first age", queued(3, nil, ages(1, age, 2, most, 3, 0), 0))
			wrong(t, "all ages", queued(3, nil, ages(1, age, 2, age, 3, age), 0))
		}
	}
	l := agedFrom(1, buffer, 0)
	l[buffer-1].Age = -1
	wrong(t, "the last age of many", queued(buffer, nil, l, 0))
}

// TestLoadOfRisingAges: M1: one age above the one ahead of it, wherever they stand.
func TestLoadOfRisingAges(t *testing.T) {
	for _, s := range [][]api.Aged{
		ages(1, 0, 2, 1),
		ages(1, most-1, 2, most),
		ages(1, 0, 2, most),
		ages(1, 4, 2, 5, 3, 5),
		ages(1, 4, 2, 4, 3, 5),
		ages(1, 5, 2, 3, 3, 4),
		ages(1, 3, 2, 5, 3, 4),
		ages(1, 9, 2, 8, 3, 7, 4, 8, 5, 6),
	} {
		wrong(t, "rising ages", queued(5, nil, s, 0))
		wrong(t, "rising ages", queued(len(s), values(1), s, 3))
	}
	for at := 1; at < buffer; at += 31 {
		l := agedFrom(1, buffer, 1)
		for i := range at {
			l[i].Age = 2
		}
		load(t, queued(buffer, nil, l, 0))
		l[at].Age = 3
		wrong(t, "one age of many", queued(buffer, nil, l, 0))
	}
}

// TestLoadOfWrongLost: M1: a sampled port has lost none.
func TestLoadOfWrongLost(t *testing.T) {
	for _, lost := range noAges() {
		wrong(t, "a Lost of nobody", queued(2, nil, nil, int(lost)))
		wrong(t, "a Lost of nobody", queued(2, values(1), ages(2, 3), int(lost)))
		wrong(t, "a Lost of nobody", api.PortState{Cap: 1, Lost: int(lost)})
	}
	for _, lost := range []int{1, 2, 1024, most - 1, most} {
		wrong(t, "a Lost of queued ports", api.PortState{Cap: 1, Lost: lost})
		wrong(t, "a Lost of queued ports", api.PortState{Cap: 1, Out: values(1), In: ages(2, 3), Lost: lost})
	}
}

// TestLoadOfAllSmall: M1: of all small states with edges in them Load takes just those that may be.
func TestLoadOfAllSmall(t *testing.T) {
	numbers := []int64{-1, 0, 1, most, most + 1}
	took, refused := 0, 0
	each := func(s api.PortState) {
		if mayBe(s) {
			took++
			stands(t, "one that may be", load(t, s), s)
		} else {
			refused++
			wrong(t, "one that may not be", s)
		}
	}
	for _, in := range allAges(numbers, 3) {
		for _, queue := range []bool{false, true} {
			for _, capacity := range []int{-1, 0, 1, 2, 3, buffer + 1} {
				for n := range 4 {
					for _, lost := range numbers {
						each(api.PortState{Queue: queue, Cap: capacity, Out: from(7, n), In: in, Lost: int(lost)})
					}
				}
			}
		}
	}
	if took < 200 || refused < 10000 {
		t.Errorf("Load took %d and refused %d: too few to tell anything", took, refused)
	}
}

// allAges is all lists of up to n values whose ages are among some.
func allAges(some []int64, n int) [][]api.Aged {
	all := [][]api.Aged{nil}
	last := all
	for v := range int64(n) {
		var next [][]api.Aged
		for _, l := range last {
			for _, age := range some {
				next = append(next, append(l[:len(l):len(l)], api.Aged{Value: v, Age: int(age)}))
			}
		}
		all, last = append(all, next...), next
	}
	return all
}

// mayBe is the document's words, reason by reason.
func mayBe(s api.PortState) bool {
	if s.Cap < 1 || s.Cap > 1024 || !s.Queue && s.Cap != 1 {
		return false
	}
	if len(s.Out) > s.Cap || len(s.In) > s.Cap {
		return false
	}
	for i, x := range s.In {
		if x.Age < 0 || x.Age > 2147483647 || i > 0 && x.Age > s.In[i-1].Age {
			return false
		}
	}
	return s.Lost >= 0 && s.Lost <= 2147483647 && (s.Queue || s.Lost == 0)
}
