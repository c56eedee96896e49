package policy_test

import (
	"slices"
	"testing"

	"rota/api"
)

// all is each domain of so many, from and to each.
func all(n int) (x table) {
	for from := range n {
		for to := range n {
			x[from][to] = true
		}
	}
	return x
}

// along is a relation by a rule, of so many domains.
func along(n int, rule func(from, to int) bool) (x table) {
	for from := range n {
		for to := range n {
			x[from][to] = rule(from, to)
		}
	}
	return x
}

// N1: May tells of just those that an edge leads from the one to the other, not of paths, and of nobody to itself.
func TestMay(t *testing.T) {
	for _, g := range policies() {
		want := along(g.domains, func(from, to int) bool { return slices.Contains(g.l, edge(from, to)) })
		if x := ask(t, g, may); x != want {
			t.Errorf("%s, %v: May: %v", g.what, g.l, x)
		}
	}
	g := given{"a chain of three", 3, walk(0, 1, 2)}
	want := table{0: {1: true}, 1: {2: true}}
	if x := ask(t, g, may); x != want {
		t.Errorf("%s: May: %v", g.what, x)
	}
}

// N1: Path, where it can be told by a rule.
func TestPath(t *testing.T) {
	chain := walk(upTo(domains)...)
	same := func(from, to int) bool { return from == to }
	up := func(from, to int) bool { return from <= to }
	down := func(from, to int) bool { return from >= to }
	for _, c := range []struct {
		given
		want table
	}{
		{given{"one domain", 1, nil}, all(1)},
		{given{"no edge", 2, nil}, along(2, same)},
		{given{"no edge, as many domains as may be", domains, nil}, along(domains, same)},
		{given{"one edge", 2, walk(0, 1)}, along(2, up)},
		{given{"one edge, the other way", 2, walk(1, 0)}, along(2, down)},
		{given{"there and back", 2, walk(0, 1, 0)}, all(2)},
		{given{"the same edge twice", 2, slices.Concat(walk(0, 1), walk(0, 1))}, along(2, up)},
		{given{"a chain", domains, chain}, along(domains, up)},
		{given{"a chain, backwards in the list", domains, backwards(chain)}, along(domains, up)},
		{given{"a chain, each edge twice", domains, slices.Concat(chain, backwards(chain))}, along(domains, up)},
		{given{"a chain, the other way", domains, walk(backwards(upTo(domains))...)}, along(domains, down)},
		{given{"a chain, the other way, backwards in the list", domains, backwards(walk(backwards(upTo(domains))...))}, along(domains, down)},
		{given{"a ring through all", domains, ring(domains)}, all(domains)},
		{given{"a ring through all, backwards in the list", domains, backwards(ring(domains))}, all(domains)},
		{given{"a ring through all but one", domains, ring(domains - 1)}, along(domains, func(from, to int) bool { return from == to || from < 15 && to < 15 })},
		{given{"all edges", domains, full(domains)}, all(domains)},
		{given{"one to all others", domains, fan(8, true)}, along(domains, func(from, to int) bool { return from == to || from == 8 })},
		{given{"all others to one", domains, fan(8, false)}, along(domains, func(from, to int) bool { return from == to || to == 8 })},
		{given{"two rings", 6, twoRings()}, along(6, func(from, to int) bool { return from/3 == to/3 })},
		{given{"two rings that one edge joins", 6, append(twoRings(), edge(1, 5))}, along(6, func(from, to int) bool { return from/3 <= to/3 })},
		{given{"two rings that one edge joins, the other way", 6, append(twoRings(), edge(5, 1))}, along(6, func(from, to int) bool { return from/3 >= to/3 })},
		{given{"two rings that two edges join", 6, slices.Concat(walk(1, 5), twoRings(), walk(3, 0))}, all(6)},
	} {
		if x := ask(t, c.given, path); x != c.want {
			t.Errorf("%s: Path: %v, not %v", c.what, x, c.want)
		}
	}
}

// twoRings is the ring of 0, 1 and 2, and that of 3, 4 and 5.
func twoRings() []api.Edge { return slices.Concat(walk(0, 1, 2, 0), walk(3, 4, 5, 3)) }

// N1: a ring's edges but one are a chain, whichever one it is.
func TestPathOfARingThatIsCut(t *testing.T) {
	for cut := range domains {
		g := given{"a ring that is cut", domains, slices.Delete(ring(domains), cut, cut+1)}
		// The chain begins behind the cut.
		want := along(domains, func(from, to int) bool { return (from-cut-1+2*domains)%domains <= (to-cut-1+2*domains)%domains })
		if x := ask(t, g, path); x != want {
			t.Errorf("cut behind %d: Path: %v", cut, x)
		}
	}
}

// N1: Above tells those from which a path leads, rising, itself too.
func TestAbove(t *testing.T) {
	chain := walk(upTo(domains)...)
	for _, c := range []struct {
		given
		of   int
		want []int
	}{
		{given{"one domain", 1, nil}, 0, []int{0}},
		{given{"no edge", domains, nil}, 15, []int{15}},
		{given{"one edge, where it comes from", 2, walk(0, 1)}, 0, []int{0}},
		{given{"one edge, where it leads", 2, walk(0, 1)}, 1, []int{0, 1}},
		{given{"one edge to a lesser one", 2, walk(1, 0)}, 0, []int{0, 1}},
		{given{"one edge to a lesser one, where it comes from", 2, walk(1, 0)}, 1, []int{1}},
		{given{"the same edge twice", 2, slices.Concat(walk(1, 0), walk(1, 0))}, 0, []int{0, 1}},
		{given{"edges out of order", 6, slices.Concat(walk(5, 2), walk(0, 2), walk(3, 2))}, 2, []int{0, 2, 3, 5}},
		{given{"a way round", 6, walk(4, 0, 5, 1)}, 1, []int{0, 1, 4, 5}},
		{given{"a chain", domains, chain}, 0, upTo(1)},
		{given{"a chain", domains, backwards(chain)}, 9, upTo(10)},
		{given{"a chain", domains, chain}, 15, upTo(16)},
		{given{"a ring through all", domains, ring(domains)}, 7, upTo(16)},
		{given{"all others to one", domains, fan(8, false)}, 8, upTo(16)},
		{given{"all others to one", domains, fan(8, false)}, 0, []int{0}},
		{given{"two rings that one edge joins, the one", 6, append(twoRings(), edge(1, 5))}, 2, []int{0, 1, 2}},
		{given{"two rings that one edge joins, the other", 6, append(twoRings(), edge(1, 5))}, 3, upTo(6)},
	} {
		if x := above(t, c.given, c.of); !slices.Equal(x, c.want) {
			t.Errorf("%s: Above(%d): %v, not %v", c.what, c.of, x, c.want)
		}
	}
}

// N1: Groups tells for each domain the least one that it is in a ring with, itself if there is none.
func TestGroups(t *testing.T) {
	chain := walk(upTo(domains)...)
	none := make([]int, domains)
	for _, c := range []struct {
		given
		want []int
	}{
		{given{"one domain", 1, nil}, []int{0}},
		{given{"no edge", domains, nil}, upTo(domains)},
		{given{"one edge", 2, walk(0, 1)}, []int{0, 1}},
		{given{"one edge, the other way", 2, walk(1, 0)}, []int{0, 1}},
		{given{"there and back", 3, walk(2, 1, 2)}, []int{0, 1, 1}},
		{given{"a chain", domains, chain}, upTo(domains)},
		{given{"a chain, the other way", domains, walk(backwards(upTo(domains))...)}, upTo(domains)},
		{given{"a ring through all", domains, ring(domains)}, none},
		{given{"a ring through all, backwards in the list", domains, backwards(ring(domains))}, none},
		{given{"all edges", domains, full(domains)}, none},
		{given{"a ring of those behind the first ones", 6, walk(5, 3, 4, 5)}, []int{0, 1, 2, 3, 3, 3}},
		{given{"two rings", 6, twoRings()}, []int{0, 0, 0, 3, 3, 3}},
		{given{"two rings that one edge joins", 6, append(twoRings(), edge(1, 5))}, []int{0, 0, 0, 3, 3, 3}},
		{given{"two rings that one edge joins, the other way", 6, append(twoRings(), edge(5, 1))}, []int{0, 0, 0, 3, 3, 3}},
		{given{"two rings that two edges join", 6, append(twoRings(), edge(1, 5), edge(3, 0))}, make([]int, 6)},
		{given{"two rings that mix", 8, slices.Concat(walk(7, 1, 4, 7), walk(6, 2, 0, 6))}, []int{0, 1, 0, 3, 1, 5, 0, 1}},
		{given{"two rings that a domain is in", 5, slices.Concat(walk(4, 2, 3, 4), walk(1, 2, 0, 1))}, make([]int, 5)},
	} {
		if x := groups(t, c.given); !slices.Equal(x, c.want) {
			t.Errorf("%s: Groups: %v, not %v", c.what, x, c.want)
		}
	}
}
