package policy_test

import (
	"math"
	"testing"

	"rota/api"
)

// fine is what Check tells where nothing is wrong.
var fine = checked{0, api.OK}

// checks holds Check against want.
func checks(t *testing.T, what string, domains int, l []api.Edge, want checked) {
	t.Helper()
	if x := check(domains, l); x != want {
		t.Errorf("%s: Check(%d, %v): %+v, not %+v", what, domains, l, x, want)
	}
}

// N1: Check takes policies that may be.
func TestCheckOfWhatMayBe(t *testing.T) {
	for _, g := range policies() {
		checks(t, g.what, g.domains, g.l, fine)
	}
}

// N1: the number of domains is 1 to 16, with edges or without.
func TestCheckOfNumbersOfDomains(t *testing.T) {
	for n, e := range map[int]api.Errno{
		math.MinInt: api.ErrArg, -16: api.ErrArg, -1: api.ErrArg, 0: api.ErrArg, 1: api.OK, 2: api.OK, 15: api.OK, 16: api.OK,
		17: api.ErrArg, 32: api.ErrArg, 1 << 32: api.ErrArg, 1<<32 + 1: api.ErrArg, math.MaxInt: api.ErrArg,
	} {
		checks(t, "no edge", n, nil, checked{0, e})
		want := checked{0, e}
		if n == 1 {
			want.e = api.ErrEdge
		}
		checks(t, "an edge from 0 to 1", n, walk(0, 1), want)
	}
}

// N1: of each number of domains all edges may be but those from and to the same one, each by itself.
func TestCheckOfEachEdge(t *testing.T) {
	for n := 1; n <= domains; n++ {
		for from := -2; from < domains+3; from++ {
			for to := -2; to < domains+3; to++ {
				want := fine
				if from < 0 || from >= n || to < 0 || to >= n || from == to {
					want.e = api.ErrEdge
				}
				checks(t, "one edge", n, []api.Edge{edge(from, to)}, want)
			}
		}
	}
}

// N1: an edge that may not be: to itself, from nobody, to nobody, each alone and both.
func TestCheckOfOddEdges(t *testing.T) {
	for _, n := range []int{1, 2, 7, domains} {
		for _, d := range append(odd(), n, n+1) {
			for _, x := range []api.Edge{edge(d, 0), edge(0, d), edge(d, d), edge(d, -1), edge(n, d)} {
				checks(t, "one edge", n, []api.Edge{x}, checked{0, api.ErrEdge})
			}
		}
	}
}

// N1: the place is that of the first edge that may not be, whichever the others are.
func TestCheckTellsThePlace(t *testing.T) {
	for _, x := range []api.Edge{edge(3, 3), edge(-1, 0), edge(0, -1), edge(domains, 0), edge(0, domains), edge(math.MinInt, math.MaxInt)} {
		for at := range 40 {
			l := append(ring(domains), full(domains)[:24]...)
			l[at] = x
			checks(t, "one that may not be", domains, l, checked{at, api.ErrEdge})
			for behind := at + 1; behind < 40; behind += 5 {
				l[behind] = edge(9, 9)
				checks(t, "one more behind it", domains, l, checked{at, api.ErrEdge})
			}
		}
	}
	checks(t, "the last of many", domains, append(many(), edge(5, 5)), checked{len(many()), api.ErrEdge})
}

// many is a long list of edges.
func many() (l []api.Edge) {
	for range 2000 {
		l = append(l, full(domains)...)
	}
	return l
}

// N1, R2: the number of domains is told ahead of the edges.
func TestCheckTellsDomainsFirst(t *testing.T) {
	for _, n := range []int{math.MinInt, -1, 0, 17, 18, math.MaxInt} {
		for _, l := range [][]api.Edge{{edge(1, 1)}, append(some(), edge(0, 99)), {edge(-1, -1), edge(0, 1)}, many()} {
			checks(t, "both are wrong", n, l, checked{0, api.ErrArg})
		}
	}
}
