package port_test

import (
	"testing"

	"rota/api"
	"rota/port"
)

// TestOthersPorts: R1: a Port that New and Load did not give, nil or a plain one, takes nothing and has nothing, behind one another too.
func TestOthersPorts(t *testing.T) {
	for _, p := range []*port.Port{nil, {}, new(port.Port)} {
		for range 2 {
			for _, v := range anyValues() {
				puts(t, "nobody's", p, v, false)
			}
			gets(t, "nobody's", p, 0, -1)
			stands(t, "nobody's", p, api.PortState{})
			p.Deliver()
			gets(t, "nobody's, delivered", p, 0, -1)
			stands(t, "nobody's, delivered", p, api.PortState{})
		}
	}
}
