package policy_test

import (
	"math"
	"math/rand/v2"
	"slices"
	"testing"

	"rota/api"
	"rota/policy"
)

// domains is as many as there may be.
const domains = 16

// edge is one edge; walk is the edges from each domain of a list to the next one.
func edge(from, to int) api.Edge { return api.Edge{From: from, To: to} }
func walk(l ...int) (edges []api.Edge) {
	for i := 1; i < len(l); i++ {
		edges = append(edges, edge(l[i-1], l[i]))
	}
	return edges
}

// some is the edges of the chapter's examples, of four domains.
func some() []api.Edge { return walk(0, 1, 2, 1) }

// upTo is the numbers from 0 on, so many.
func upTo(n int) (l []int) {
	for i := range n {
		l = append(l, i)
	}
	return l
}

// ring is the edges from each of n domains to the next one, and from the last one to the first one.
func ring(n int) []api.Edge { return walk(append(upTo(n), 0)...) }

// backwards is a list from its end on.
func backwards[T any](l []T) []T {
	l = slices.Clone(l)
	slices.Reverse(l)
	return l
}

// full is all edges that may be of n domains.
func full(n int) (l []api.Edge) {
	for from := range n {
		for to := range n {
			if from != to {
				l = append(l, edge(from, to))
			}
		}
	}
	return l
}

// drawn is n edges by chance, of so many domains.
func drawn(r *rand.Rand, domains, n int) (l []api.Edge) {
	for len(l) < n {
		if from, to := r.IntN(domains), r.IntN(domains); from != to {
			l = append(l, edge(from, to))
		}
	}
	return l
}

// given is what a call is given: how many domains, and their edges.
type given struct {
	what    string
	domains int
	l       []api.Edge
}

// namedPolicies is policies that may be: those by whose edges a call may go wrong.
func namedPolicies() []given {
	chain := walk(upTo(domains)...)
	return []given{
		{"one domain", 1, nil},
		{"two domains, no edge", 2, nil},
		{"as many domains as may be, no edge", domains, nil},
		{"the chapter's example", 4, some()},
		{"the chapter's example, the same edges twice", 4, slices.Concat(some(), some())},
		{"the chapter's example, backwards", 4, backwards(some())},
		{"one edge", 2, walk(0, 1)},
		{"one edge, back", 2, walk(1, 0)},
		{"there and back", 2, walk(0, 1, 0)},
		{"one edge many times", 3, slices.Repeat(walk(2, 0), 5)},
		{"a ring through all domains", domains, ring(domains)},
		{"a ring through all domains, backwards in the list", domains, backwards(ring(domains))},
		{"a ring through all domains, the other way", domains, walk(append([]int{0}, backwards(upTo(domains))...)...)},
		{"a chain", domains, chain},
		{"a chain, backwards in the list", domains, backwards(chain)},
		{"a chain, the other way", domains, walk(backwards(upTo(domains))...)},
		{"a chain by leaps", domains, walk(0, 5, 10, 15, 4, 9, 14, 3, 8, 13, 2, 7, 12, 1, 6, 11)},
		{"two rings", 7, slices.Concat(walk(0, 1, 2, 0), walk(3, 4, 5, 3))},
		{"two rings that one edge joins", 7, slices.Concat(walk(0, 1, 2, 0), walk(3, 4, 5, 3), walk(1, 4))},
		{"two rings that one edge joins, the other way", 7, slices.Concat(walk(4, 1), walk(0, 1, 2, 0), walk(3, 4, 5, 3))},
		{"two rings that a domain is in", 5, slices.Concat(walk(0, 2, 4, 0), walk(1, 2, 3, 1))},
		{"one to all others", domains, fan(8, true)},
		{"all others to one", domains, fan(8, false)},
		{"all edges", domains, full(domains)},
	}
}

// fan is the edges from one domain to all others, or from all others to it.
func fan(d int, away bool) []api.Edge {
	return slices.DeleteFunc(full(domains), func(x api.Edge) bool {
		return away && x.From != d || !away && x.To != d
	})
}

// policies is those, and some by chance of each number of domains, from few edges to many.
func policies() []given {
	l := namedPolicies()
	r := rand.New(rand.NewPCG(17, 1))
	for n := 2; n <= domains; n++ {
		for _, many := range []int{1, n / 2, n - 1, n, n + 1, 3 * n / 2, 2 * n, n * n} {
			for range 3 {
				l = append(l, given{"by chance", n, drawn(r, n, many)})
			}
		}
	}
	return l
}

// checked is what Check tells.
type checked struct {
	at int
	e  api.Errno
}

// check asks Check.
func check(domains int, l []api.Edge) checked {
	at, e := policy.Check(domains, l)
	return checked{at, e}
}

// may, path, above and groups ask where nothing is refused.
func may(t *testing.T, g given, from, to int) bool {
	t.Helper()
	yes, e := policy.May(g.domains, g.l, from, to)
	if e != api.OK {
		t.Fatalf("%s, %v: May(%d, %d): error %d", g.what, g.l, from, to, e)
	}
	return yes
}
func path(t *testing.T, g given, from, to int) bool {
	t.Helper()
	yes, e := policy.Path(g.domains, g.l, from, to)
	if e != api.OK {
		t.Fatalf("%s, %v: Path(%d, %d): error %d", g.what, g.l, from, to, e)
	}
	return yes
}
func above(t *testing.T, g given, of int) []int {
	t.Helper()
	l, e := policy.Above(g.domains, g.l, of)
	if e != api.OK {
		t.Fatalf("%s, %v: Above(%d): error %d", g.what, g.l, of, e)
	}
	return l
}
func groups(t *testing.T, g given) []int {
	t.Helper()
	l, e := policy.Groups(g.domains, g.l)
	if e != api.OK {
		t.Fatalf("%s, %v: Groups: error %d", g.what, g.l, e)
	}
	return l
}

// table tells of each two domains whether they are so.
type table [domains][domains]bool

// ask asks a call of each two domains of a policy.
func ask(t *testing.T, g given, call func(t *testing.T, g given, from, to int) bool) (x table) {
	t.Helper()
	for from := range g.domains {
		for to := range g.domains {
			x[from][to] = call(t, g, from, to)
		}
	}
	return x
}

// odd is numbers that are no domain of any number of domains.
func odd() []int {
	return []int{-1, -2, domains, domains + 1, 64, 256, 1 << 32, 1<<32 + 1, math.MaxInt, math.MinInt, math.MinInt + 1}
}
