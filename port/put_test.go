package port_test

import (
	"testing"

	"rota/api"
)

// TestPutQueued: M2: values stand in Out in order; at the capacity it is false, and nothing changes.
func TestPutQueued(t *testing.T) {
	for _, capacity := range []int{1, 2, 3, 64, buffer - 1, buffer} {
		p := made(t, true, capacity)
		for n := range capacity {
			puts(t, "with room", p, int64(n+5), true)
			if capacity < 65 || n > capacity-3 {
				stands(t, "with room", p, queued(capacity, from(5, n+1), nil, 0))
			}
		}
		for range 3 {
			for _, v := range anyValues() {
				puts(t, "full", p, v, false)
			}
			stands(t, "full", p, queued(capacity, from(5, capacity), nil, 0))
		}
	}
}

// TestPutAnyValue: M2: all values may be put, the same one again too.
func TestPutAnyValue(t *testing.T) {
	p := made(t, true, buffer)
	for _, v := range anyValues() {
		puts(t, "once", p, v, true)
		puts(t, "again", p, v, true)
		x := made(t, false, 1)
		puts(t, "sampled", x, v, true)
		stands(t, "sampled", x, sampled(values(v), nil))
	}
	var want []int64
	for _, v := range anyValues() {
		want = append(want, v, v)
	}
	stands(t, "any value", p, queued(buffer, want, nil, 0))
}

// TestPutLooksAtOutAlone: M2: whether there is room hangs on Out, not on In or Lost, full, all but full or empty; neither changes.
func TestPutLooksAtOutAlone(t *testing.T) {
	for _, capacity := range []int{1, 2, 3, buffer} {
		for _, in := range [][]api.Aged{nil, agedFrom(1, capacity, 0), agedFrom(1, capacity-1, most), agedFrom(1, 1, 3)} {
			for _, lost := range []int{0, 5, most - 1, most} {
				p := load(t, queued(capacity, from(3, capacity-1), in, lost))
				puts(t, "room for one", p, 77, true)
				s := queued(capacity, append(from(3, capacity-1), 77), in, lost)
				stands(t, "room for one", p, s)
				puts(t, "no room", p, 78, false)
				stands(t, "no room", p, s)
			}
		}
	}
}

// TestPutSampled: M2: Out is the last value alone; In stays.
func TestPutSampled(t *testing.T) {
	for _, s := range []api.PortState{sampled(nil, nil), sampled(values(3), nil), sampled(nil, ages(4, 5)), sampled(values(3), ages(4, most))} {
		p := load(t, s)
		for _, v := range anyValues() {
			puts(t, "sampled", p, v, true)
			stands(t, "sampled", p, sampled(values(v), s.In))
		}
		for v := range int64(3000) {
			puts(t, "again and again", p, v, true)
		}
		stands(t, "again and again", p, sampled(values(2999), s.In))
	}
}
