package port

import "rota/api"

// sampled is a port that keeps the last value: one that was put, and one that can be got.
type sampled struct{ kept }

func (s *sampled) put(v int64) bool {
	s.out = []int64{v}
	return true
}

func (s *sampled) get() (int64, int) { return s.first() }

func (s *sampled) deliver() {
	s.grow()
	if len(s.out) > 0 {
		s.in = []api.Aged{{Value: s.out[0]}}
	}
	s.out = nil
}

func (s *sampled) state() api.PortState {
	k := keptOf(s.out, s.in)
	return api.PortState{Cap: 1, Out: k.out, In: k.in}
}
