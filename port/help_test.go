package port_test

import (
	"math"
	"slices"
	"testing"

	"rota/api"
	"rota/port"
)

// most is the greatest age, and the greatest number of lost values; buffer is the greatest capacity.
const (
	most   = 1<<31 - 1
	buffer = 1024
)

// queued and sampled are states of the two kinds.
func queued(capacity int, out []int64, in []api.Aged, lost int) api.PortState {
	return api.PortState{Queue: true, Cap: capacity, Out: out, In: in, Lost: lost}
}
func sampled(out []int64, in []api.Aged) api.PortState {
	return api.PortState{Cap: 1, Out: out, In: in}
}

// values and ages write lists; of ages v is each value, and the one behind it its age.
func values(v ...int64) []int64 { return v }
func ages(v ...int64) (l []api.Aged) {
	for i := 0; i < len(v); i += 2 {
		l = append(l, api.Aged{Value: v[i], Age: int(v[i+1])})
	}
	return l
}

// from is n values: first, first + 1, ..; agedFrom is the same, all of one age.
func from(first int64, n int) (l []int64) {
	for i := range n {
		l = append(l, first+int64(i))
	}
	return l
}
func agedFrom(first int64, n, age int) (l []api.Aged) {
	for _, v := range from(first, n) {
		l = append(l, api.Aged{Value: v, Age: age})
	}
	return l
}

// anyValues is values by which nothing may go otherwise.
func anyValues() []int64 {
	return []int64{0, 1, -1, 5, most, most + 1, math.MaxInt64, math.MinInt64}
}

// same tells whether two states are the same.
func same(x, y api.PortState) bool {
	return x.Queue == y.Queue && x.Cap == y.Cap && x.Lost == y.Lost && slices.Equal(x.Out, y.Out) && slices.Equal(x.In, y.In)
}

// copyOf is a state in memory of its own.
func copyOf(s api.PortState) api.PortState {
	s.Out, s.In = slices.Clone(s.Out), slices.Clone(s.In)
	return s
}

// stands holds all that a port has against a state.
func stands(t *testing.T, what string, p *port.Port, want api.PortState) {
	t.Helper()
	if s := p.State(); !same(s, want) {
		t.Errorf("%s: State: %+v, not %+v", what, s, want)
	}
}

// puts puts a value in, and holds the answer against want.
func puts(t *testing.T, what string, p *port.Port, v int64, want bool) {
	t.Helper()
	if yes := p.Put(v); yes != want {
		t.Errorf("%s: Put(%d): %v", what, v, yes)
	}
}

// gets gets a value, and holds it and its age against v and age.
func gets(t *testing.T, what string, p *port.Port, v int64, age int) {
	t.Helper()
	if w, a := p.Get(); w != v || a != age {
		t.Errorf("%s: Get: %d, %d, not %d, %d", what, w, a, v, age)
	}
}

// made is a new port.
func made(t *testing.T, queue bool, capacity int) *port.Port {
	t.Helper()
	p, e := port.New(queue, capacity)
	if e != api.OK || p == nil {
		t.Fatalf("New(%v, %d): %v, %d", queue, capacity, p, e)
	}
	return p
}

// load is a port of a state.
func load(t *testing.T, s api.PortState) *port.Port {
	t.Helper()
	p, e := port.Load(s)
	if e != api.OK || p == nil {
		t.Fatalf("Load(%+v): %v, %d", s, p, e)
	}
	return p
}

// states is states that may be, of both kinds, with something of all.
func states() []api.PortState {
	return []api.PortState{
		sampled(nil, nil),
		sampled(values(7), nil),
		sampled(nil, ages(8, 0)),
		sampled(values(-7), ages(8, 3)),
		sampled(values(math.MinInt64), ages(math.MaxInt64, most)),
		queued(1, nil, nil, 0),
		queued(1, values(7), ages(8, 1), 5),
		queued(2, values(7, 7), nil, 0),
		queued(2, nil, ages(8, 5, 9, 5), most),
		queued(2, values(1), ages(8, most, 9, most-1), most-1),
		queued(5, values(1, 2, 3, 4), ages(0, 4, -1, 4, 3, 0), 1),
		queued(buffer, nil, nil, 0),
		queued(buffer, from(1, buffer), agedFrom(-9, buffer, 2), 17),
		queued(buffer, from(1, buffer-1), agedFrom(-9, buffer-1, most), 0),
	}
}
