package policy

import "rota/api"

// relation tells of each domain to which ones it leads.
type relation [api.MaxDomains][api.MaxDomains]bool

// paths is from where to where paths lead, of domains and edges that may be.
func paths(domains int, l []api.Edge) relation {
	var r relation
	for d := range domains {
		r[d][d] = true
	}
	for _, x := range l {
		r[x.From][x.To] = true
	}
	// The domains that a path goes over are let in one by one: as each comes to r once, one round over them is enough.
	for over := range domains {
		r.join(domains, over)
	}
	return r
}

// join has the one lead to the other, where the one leads to over and over to the other.
func (r *relation) join(domains, over int) {
	for from := range domains {
		for to := range domains {
			if r[from][over] && r[over][to] {
				r[from][to] = true
			}
		}
	}
}

// group is the least domain to which one leads, and which leads to it.
func (r *relation) group(d int) int {
	least := 0
	for !r[d][least] || !r[least][d] { // it ends at d, since each leads to itself
		least++
	}
	return least
}
