package port_test

import (
	"testing"

	"rota/api"
)

// TestGetNothing: M3: 0 and -1, again and again, whatever was put and lost; nothing changes.
func TestGetNothing(t *testing.T) {
	for _, s := range []api.PortState{
		sampled(nil, nil), sampled(values(7), nil),
		queued(1, nil, nil, 0), queued(1, values(7), nil, 3), queued(2, values(7), nil, most), queued(2, values(7, 8), nil, 0),
		queued(buffer, nil, nil, 1), queued(buffer, from(1, buffer), nil, 0), queued(buffer, from(1, buffer-1), nil, 0),
	} {
		p := load(t, s)
		for range 3 {
			gets(t, "nothing", p, 0, -1)
			stands(t, "nothing", p, s)
		}
	}
}

// TestGetSampled: M3: the value and its age stay; what was put is not got.
func TestGetSampled(t *testing.T) {
	for _, v := range anyValues() {
		for _, age := range []int64{0, 1, most - 1, most} {
			for _, out := range [][]int64{nil, {v}, {55}} {
				p := load(t, sampled(out, ages(v, age)))
				for range 3 {
					gets(t, "sampled", p, v, int(age))
					stands(t, "sampled", p, sampled(out, ages(v, age)))
				}
			}
		}
	}
}

// TestGetQueued: M3: the first value goes, with its age, till none is left; Out and Lost stay.
func TestGetQueued(t *testing.T) {
	in := ages(5, most, 5, most-1, 0, 3, -1, 3, 8, 0)
	for _, out := range [][]int64{nil, {1}, from(1, 5)} {
		for _, lost := range []int{0, 4, most} {
			p := load(t, queued(5, out, in, lost))
			for n, x := range in {
				gets(t, "queued", p, x.Value, x.Age)
				stands(t, "queued", p, queued(5, out, in[n+1:], lost))
			}
			gets(t, "none is left", p, 0, -1)
			stands(t, "none is left", p, queued(5, out, nil, lost))
		}
	}
}

// TestGetFull: M3: likewise of full queues, and of all but full ones.
func TestGetFull(t *testing.T) {
	for _, capacity := range []int{1, 2, 3, 64, buffer - 1, buffer} {
		for _, n := range []int{capacity, capacity - 1} {
			p := load(t, queued(capacity, nil, agedFrom(9, n, 6), 0))
			for at := range n {
				gets(t, "full", p, int64(9+at), 6)
			}
			gets(t, "none is left", p, 0, -1)
			stands(t, "none is left", p, queued(capacity, nil, nil, 0))
		}
	}
}

// TestGetAnyValue: M3: a value of 0 or -1 is told from nothing by its age.
func TestGetAnyValue(t *testing.T) {
	for _, v := range anyValues() {
		p := load(t, queued(2, nil, ages(v, 0), 0))
		gets(t, "any value", p, v, 0)
		gets(t, "nothing", p, 0, -1)
	}
}
