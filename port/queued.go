package port

import (
	"slices"

	"rota/api"
)

// queued is a port that keeps values in their order, so many on each side.
type queued struct {
	kept
	capacity int
	lost     int
}

// put looks at what was put alone: whether others got theirs is not to be seen by who puts.
func (q *queued) put(v int64) bool {
	if len(q.out) == q.capacity {
		return false
	}
	q.out = append(q.out, v)
	return true
}

func (q *queued) get() (int64, int) {
	v, age := q.first()
	if age >= 0 {
		q.in = slices.Delete(q.in, 0, 1)
	}
	return v, age
}

func (q *queued) deliver() {
	q.grow()
	come := min(len(q.out), q.capacity-len(q.in))
	for _, v := range q.out[:come] {
		q.in = append(q.in, api.Aged{Value: v})
	}
	q.lost += min(len(q.out)-come, most-q.lost)
	q.out = nil
}

func (q *queued) state() api.PortState {
	k := keptOf(q.out, q.in)
	return api.PortState{Queue: true, Cap: q.capacity, Out: k.out, In: k.in, Lost: q.lost}
}
