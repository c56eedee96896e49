package policy_test

import (
	"math/rand/v2"
	"slices"
	"testing"
)

// within tells whether all that are so in x are so in y.
func within(x, y table) bool {
	for a := range domains {
		for b := range domains {
			if x[a][b] && !y[a][b] {
				return false
			}
		}
	}
	return true
}

// N2: Path is reflexive and transitive, and has all edges.
func TestPathIsReflexiveAndTransitive(t *testing.T) {
	for _, g := range policies() {
		x := ask(t, g, path)
		if !reflexive(x, g.domains) || !transitive(x) || !within(ask(t, g, may), x) {
			t.Errorf("%s, %v: Path: %v", g.what, g.l, x)
		}
	}
}

// reflexive and transitive tell whether a relation of so many domains is so.
func reflexive(x table, n int) bool {
	for d := range n {
		if !x[d][d] {
			return false
		}
	}
	return true
}
func transitive(x table) bool {
	for a := range domains {
		for b := range domains {
			if x[a][b] && !withinRow(x[b], x[a]) {
				return false
			}
		}
	}
	return true
}

// withinRow tells whether all that are so in x are so in y.
func withinRow(x, y [domains]bool) bool {
	for d := range domains {
		if x[d] && !y[d] {
			return false
		}
	}
	return true
}

// relations is all relations of so many domains that are reflexive and transitive.
func relations(n int) (l []table) {
	edges := full(n)
	for bits := range 1 << len(edges) {
		x := along(n, func(from, to int) bool { return from == to })
		for i, y := range edges {
			x[y.From][y.To] = bits>>i&1 == 1
		}
		if transitive(x) {
			l = append(l, x)
		}
	}
	return l
}

// N2: of all policies of up to four domains Path is within each relation that is reflexive and transitive and has all edges.
func TestPathIsTheLeast(t *testing.T) {
	for n := 1; n <= 4; n++ {
		l, edges := relations(n), full(n)
		for bits := range 1 << len(edges) {
			g := given{what: "each policy", domains: n}
			for i, y := range edges {
				if bits>>i&1 == 1 {
					g.l = append(g.l, y)
				}
			}
			x, has := ask(t, g, path), ask(t, g, may)
			if !reflexive(x, n) || !transitive(x) || !within(has, x) {
				t.Fatalf("%d domains, %v: Path: %v", n, g.l, x)
			}
			for _, y := range l {
				if within(has, y) && !within(x, y) {
					t.Fatalf("%d domains, %v: Path: %v, which is not within %v", n, g.l, x, y)
				}
			}
		}
	}
}

// N2: two domains have the same group just if each is Above the other, and the group is the least that is so.
func TestGroupsAndAbove(t *testing.T) {
	for _, g := range policies() {
		u := groups(t, g)
		if len(u) != g.domains {
			t.Fatalf("%s, %v: Groups: %v", g.what, g.l, u)
		}
		for a := range g.domains {
			if u[a] < 0 || u[a] > a || u[u[a]] != u[a] {
				t.Errorf("%s, %v: Groups: %v", g.what, g.l, u)
			}
			for b := range g.domains {
				both := slices.Contains(above(t, g, a), b) && slices.Contains(above(t, g, b), a)
				if both != (u[a] == u[b]) {
					t.Errorf("%s, %v: domains %d and %d: Above one another: %v, groups %d and %d", g.what, g.l, a, b, both, u[a], u[b])
				}
			}
		}
	}
}

// N1: Above tells just those of which Path is so, rising.
func TestAboveAndPath(t *testing.T) {
	for _, g := range policies() {
		x := ask(t, g, path)
		for of := range g.domains {
			var want []int
			for d := range g.domains {
				if x[d][of] {
					want = append(want, d)
				}
			}
			if l := above(t, g, of); !slices.Equal(l, want) {
				t.Errorf("%s, %v: Above(%d): %v, not %v", g.what, g.l, of, l, want)
			}
		}
	}
}

// N2: without edges everybody is Above itself alone.
func TestWithoutEdges(t *testing.T) {
	for n := 1; n <= domains; n++ {
		g := given{"no edge", n, nil}
		for d := range n {
			if l := above(t, g, d); !slices.Equal(l, []int{d}) {
				t.Errorf("%d domains: Above(%d): %v", n, d, l)
			}
		}
		if u := groups(t, g); !slices.Equal(u, upTo(n)) {
			t.Errorf("%d domains: Groups: %v", n, u)
		}
	}
}

// N2: more edges take no path away, wherever in the list they come.
func TestMoreEdges(t *testing.T) {
	r := rand.New(rand.NewPCG(17, 2))
	for _, n := range []int{2, 3, 5, 8, domains} {
		for range 20 {
			g := given{what: "edge by edge", domains: n}
			was := ask(t, g, path)
			for range 2 * n {
				g.l = slices.Insert(g.l, r.IntN(len(g.l)+1), drawn(r, n, 1)...)
				is := ask(t, g, path)
				if !within(was, is) {
					t.Fatalf("%d domains, %v: Path: %v, and %v with an edge less", n, g.l, is, was)
				}
				was = is
			}
		}
	}
}

// Edges may stand twice, in any order: the same set of them is told the same.
func TestOrderAndTwice(t *testing.T) {
	r := rand.New(rand.NewPCG(17, 3))
	for _, g := range policies() {
		m, p, u := ask(t, g, may), ask(t, g, path), groups(t, g)
		for range 5 {
			h := given{g.what, g.domains, slices.Concat(g.l, g.l[:r.IntN(len(g.l)+1)])}
			r.Shuffle(len(h.l), func(i, j int) { h.l[i], h.l[j] = h.l[j], h.l[i] })
			if ask(t, h, may) != m || ask(t, h, path) != p || !slices.Equal(groups(t, h), u) || check(h.domains, h.l) != fine {
				t.Fatalf("%s: %v and %v are told differently", g.what, g.l, h.l)
			}
		}
	}
}

// More domains behind the others, with no edge of their own, change nothing of the others.
func TestMoreDomains(t *testing.T) {
	for _, g := range policies() {
		u := groups(t, g)
		for n := g.domains; n <= domains; n++ {
			h := given{g.what, n, g.l}
			for d := range g.domains {
				if x, y := above(t, g, d), above(t, h, d); !slices.Equal(x, y) {
					t.Fatalf("%s, %v: Above(%d): %v of %d domains, %v of %d", g.what, g.l, d, x, g.domains, y, n)
				}
			}
			if x := groups(t, h); !slices.Equal(x, append(slices.Clone(u), upTo(n)[g.domains:]...)) {
				t.Fatalf("%s, %v: Groups of %d domains: %v", g.what, g.l, n, x)
			}
		}
	}
}
