package policy_test

import (
	"math/rand/v2"
	"slices"
	"testing"

	"rota/api"
)

// leads is the chapter's words: a path leads from a domain to itself, and from one to another if an edge leads from the one to some domain from which a path leads to the other. Some domain that was gone over already is of no help.
func leads(l []api.Edge, from, to int, over []int) bool {
	if from == to {
		return true
	}
	return slices.ContainsFunc(l, func(x api.Edge) bool {
		return x.From == from && !slices.Contains(over, x.To) && leads(l, x.To, to, append(slices.Clone(over), x.To))
	})
}

// reached is the same, gone over from a domain on, edge by edge, till nothing comes to it; for policies with many ways.
func reached(l []api.Edge, from int) (x [domains]bool) {
	x[from] = true
	for more := true; more; {
		more = false
		for _, y := range l {
			if x[y.From] && !x[y.To] {
				x[y.To], more = true, true
			}
		}
	}
	return x
}

// N1: the two models say the same where both can be asked.
func TestModels(t *testing.T) {
	r := rand.New(rand.NewPCG(17, 4))
	for range 200 {
		n := 1 + r.IntN(6)
		var l []api.Edge
		if n > 1 {
			l = drawn(r, n, r.IntN(2*n))
		}
		for from := range n {
			x := reached(l, from)
			for to := range n {
				if leads(l, from, to, []int{from}) != x[to] {
					t.Fatalf("%v, from %d to %d: the models differ", l, from, to)
				}
			}
		}
	}
}

// agree holds all calls of a policy that may be against the model.
func agree(t *testing.T, g given) {
	t.Helper()
	var way table
	for from := range g.domains {
		way[from] = reached(g.l, from)
	}
	if x := ask(t, g, path); x != way {
		t.Fatalf("%d domains, %v: Path: %v, not %v", g.domains, g.l, x, way)
	}
	var same []int
	for d := range g.domains {
		var up []int
		least := -1
		for o := range g.domains {
			if way[o][d] {
				up = append(up, o)
			}
			if least < 0 && way[o][d] && way[d][o] {
				least = o
			}
		}
		same = append(same, least)
		if x := above(t, g, d); !slices.Equal(x, up) {
			t.Fatalf("%d domains, %v: Above(%d): %v, not %v", g.domains, g.l, d, x, up)
		}
	}
	if x := groups(t, g); !slices.Equal(x, same) {
		t.Fatalf("%d domains, %v: Groups: %v, not %v", g.domains, g.l, x, same)
	}
}

// N1: named policies and those by chance, of all numbers of domains.
func TestAgainstTheModel(t *testing.T) {
	for _, g := range policies() {
		agree(t, g)
	}
	r := rand.New(rand.NewPCG(17, 5))
	for range 2000 {
		n := 2 + r.IntN(domains-1)
		agree(t, given{"by chance", n, drawn(r, n, r.IntN(3*n))})
	}
}

// N1: all lists of up to three edges of three domains, in each order, also those that may not be.
func TestAllShortLists(t *testing.T) {
	var edges []api.Edge
	for from := -1; from <= 3; from++ {
		for to := -1; to <= 3; to++ {
			edges = append(edges, edge(from, to))
		}
	}
	lists := [][]api.Edge{nil}
	for begin := 0; len(lists[begin]) < 3; begin++ {
		for _, x := range edges {
			lists = append(lists, append(slices.Clone(lists[begin]), x))
		}
	}
	for _, l := range lists {
		for n := 1; n <= 3; n++ {
			bad := slices.IndexFunc(l, func(x api.Edge) bool { return !slices.Contains(full(n), x) })
			if bad < 0 {
				checks(t, "a short list", n, l, fine)
				agree(t, given{"a short list", n, l})
				continue
			}
			checks(t, "a short list", n, l, checked{bad, api.ErrEdge})
			for _, c := range calls() {
				refuse(t, c, given{"a short list", n, l}, 0, 0, api.ErrEdge)
			}
		}
	}
}
