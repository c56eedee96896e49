package policy_test

import (
	"math"
	"slices"
	"testing"

	"rota/api"
	"rota/policy"
)

// refused is a call by a policy and two domains: whether what it answers beside its error is zero, and the error.
type refused struct {
	name string
	asks int // how many domains it asks about: the first ones of the two
	do   func(g given, a, b int) (bool, api.Errno)
}

// calls is all calls but Check.
func calls() []refused {
	return []refused{
		{"May", 2, func(g given, a, b int) (bool, api.Errno) {
			x, e := policy.May(g.domains, g.l, a, b)
			return !x, e
		}},
		{"Path", 2, func(g given, a, b int) (bool, api.Errno) {
			x, e := policy.Path(g.domains, g.l, a, b)
			return !x, e
		}},
		{"Above", 1, func(g given, a, _ int) (bool, api.Errno) {
			x, e := policy.Above(g.domains, g.l, a)
			return len(x) == 0, e
		}},
		{"Groups", 0, func(g given, _, _ int) (bool, api.Errno) {
			x, e := policy.Groups(g.domains, g.l)
			return len(x) == 0, e
		}},
	}
}

// refuse holds of a call that it is refused with an error, and answers nothing else.
func refuse(t *testing.T, c refused, g given, a, b int, want api.Errno) {
	t.Helper()
	if zero, e := c.do(g, a, b); !zero || e != want {
		t.Errorf("%s, %d domains, %v: %s(%d, %d): error %d, not %d, and beside it zero: %v", g.what, g.domains, g.l, c.name, a, b, e, want, zero)
	}
}

// wrongPolicies is policies that Check refuses, by the number of domains alone, by an edge alone, and by both.
func wrongPolicies() (l []given) {
	for _, n := range []int{math.MinInt, -1, 0, 17, 1 << 32, math.MaxInt} {
		l = append(l, given{"no such number of domains", n, nil}, given{"no such number of domains", n, some()},
			given{"no such number of domains, no such edge", n, append(some(), edge(1, 1))})
	}
	for _, n := range []int{1, 3, 4, domains} {
		for _, x := range []api.Edge{edge(0, 0), edge(n-1, n-1), edge(-1, 0), edge(0, -1), edge(n, 0), edge(0, n), edge(math.MinInt, 0), edge(0, math.MaxInt)} {
			l = append(l, given{"one edge that may not be", n, []api.Edge{x}})
			if n > 1 {
				l = append(l, given{"the last edge may not be", n, append(walk(0, 1, 0), x)})
			}
		}
	}
	return l
}

// N1, R2: what Check refuses all others refuse, ahead of the domains that are asked about.
func TestWrongPolicies(t *testing.T) {
	for _, g := range wrongPolicies() {
		_, want := policy.Check(g.domains, g.l)
		if want == api.OK {
			t.Fatalf("%s, %d domains, %v: Check takes it", g.what, g.domains, g.l)
		}
		for _, c := range calls() {
			for _, a := range append(odd(), 0, 1, 3) {
				for _, b := range append(odd(), 0, 1, 3) {
					refuse(t, c, g, a, b, want)
				}
			}
		}
	}
}

// N1: a domain that is not there is ErrArg, as the first or the second that is asked about, or both.
func TestWrongDomains(t *testing.T) {
	for _, g := range namedPolicies() {
		for _, d := range append(odd(), g.domains, g.domains+1) {
			for _, c := range calls() {
				if c.asks > 0 {
					refuse(t, c, g, d, 0, api.ErrArg)
					refuse(t, c, g, d, d, api.ErrArg)
				}
				if c.asks > 1 {
					refuse(t, c, g, 0, d, api.ErrArg)
					refuse(t, c, g, g.domains-1, d, api.ErrArg)
				}
			}
		}
	}
}

// N1: of each number of domains just those below it may be asked about.
func TestEachDomain(t *testing.T) {
	for n := 1; n <= domains; n++ {
		g := given{"no edge", n, nil}
		for a := -1; a <= domains; a++ {
			for b := -1; b <= domains; b++ {
				for _, c := range calls() {
					want := api.OK
					if slices.ContainsFunc([]int{a, b}[:c.asks], func(d int) bool { return d < 0 || d >= n }) {
						want = api.ErrArg
					}
					if _, e := c.do(g, a, b); e != want {
						t.Errorf("%d domains: %s(%d, %d): error %d, not %d", n, c.name, a, b, e, want)
					}
				}
			}
		}
	}
}

// R1: none panics at odd numbers, and the others refuse just what Check refuses where the domains are there.
func TestAnything(t *testing.T) {
	numbers := append(odd(), 0, 1, 2, 7, 15)
	for _, n := range numbers {
		for _, from := range numbers {
			for _, to := range numbers {
				g := given{"one edge", n, []api.Edge{edge(from, to), edge(to, from)}}
				_, want := policy.Check(g.domains, g.l)
				for _, c := range calls() {
					if _, e := c.do(g, 0, 0); e != want {
						t.Errorf("%d domains, %v: Check: %d, %s: %d", n, g.l, want, c.name, e)
					}
					c.do(g, from, to)
				}
			}
		}
	}
}

// R1: long lists of edges end too.
func TestManyEdges(t *testing.T) {
	l := many()
	g := given{"many edges", domains, l}
	if x := groups(t, g); !slices.Equal(x, make([]int, domains)) {
		t.Errorf("Groups: %v", x)
	}
	if !may(t, g, 15, 14) || may(t, g, 3, 3) || !path(t, g, 3, 3) || len(above(t, g, 9)) != domains {
		t.Error("May, Path or Above is wrong")
	}
}
