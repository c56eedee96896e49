package port

import "rota/api"

// of is a port of a state that may be.
func of(s api.PortState) *Port {
	k := keptOf(s.Out, s.In)
	if s.Queue {
		return &Port{&queued{kept: k, capacity: s.Cap, lost: s.Lost}}
	}
	return &Port{&sampled{k}}
}

// capMayBe tells whether a port of a kind can have a capacity.
func capMayBe(queue bool, capacity int) bool {
	if queue {
		return capacity >= 1 && capacity <= api.MaxBuffer
	}
	return capacity == 1
}

// mayBe tells whether a state may be.
func mayBe(s api.PortState) bool {
	return capMayBe(s.Queue, s.Cap) && len(s.Out) <= s.Cap && len(s.In) <= s.Cap &&
		agesMayBe(s.In) && lostMayBe(s.Queue, s.Lost)
}

// agesMayBe tells whether ages are ages, of which none is above the one ahead of it.
func agesMayBe(in []api.Aged) bool {
	above := most
	for _, x := range in {
		if x.Age < 0 || x.Age > above {
			return false
		}
		above = x.Age
	}
	return true
}

// lostMayBe tells whether a port of a kind can have lost so many.
func lostMayBe(queue bool, lost int) bool {
	if queue {
		return lost >= 0 && lost <= most
	}
	return lost == 0
}
