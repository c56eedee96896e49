package policy_test

import (
	"slices"
	"testing"

	"rota/api"
)

// N1: the chapter's first example.
func TestExampleOfPaths(t *testing.T) {
	g := given{"the chapter's example", 4, some()}
	for of, want := range [][]int{{0}, {0, 1, 2}, {0, 1, 2}, {3}} {
		if x := above(t, g, of); !slices.Equal(x, want) {
			t.Errorf("Above(%d): %v, not %v", of, x, want)
		}
	}
	if x := groups(t, g); !slices.Equal(x, []int{0, 1, 1, 3}) {
		t.Errorf("Groups: %v", x)
	}
	if may(t, g, 0, 2) || !path(t, g, 0, 2) {
		t.Errorf("from 0 to 2: May %v, Path %v", may(t, g, 0, 2), path(t, g, 0, 2))
	}
}

// N1: the chapter's second example.
func TestExampleOfCheck(t *testing.T) {
	for _, c := range []struct {
		domains int
		l       []api.Edge
		want    checked
	}{
		{4, some(), checked{0, api.OK}},
		{4, []api.Edge{edge(1, 1)}, checked{0, api.ErrEdge}},
		{4, []api.Edge{edge(0, 4)}, checked{0, api.ErrEdge}},
		{17, nil, checked{0, api.ErrArg}},
		{17, []api.Edge{edge(1, 1)}, checked{0, api.ErrArg}},
	} {
		if x := check(c.domains, c.l); x != c.want {
			t.Errorf("Check(%d, %v): %+v, not %+v", c.domains, c.l, x, c.want)
		}
	}
}
