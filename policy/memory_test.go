package policy_test

import (
	"slices"
	"sync"
	"testing"

	"rota/api"
	"rota/policy"
)

// mark is what lists are written over with.
var mark = edge(-777, 777)

// askAll makes all calls of a policy.
func askAll(g given) {
	policy.Check(g.domains, g.l)
	for _, c := range calls() {
		for _, a := range []int{-1, 0, 1, g.domains - 1, g.domains} {
			for _, b := range []int{-1, 0, 1, g.domains - 1, g.domains} {
				c.do(g, a, b)
			}
		}
	}
}

// R3: what is handed in stays as it was, also the room behind its end, whether or not it may be.
func TestHandedInStays(t *testing.T) {
	for _, g := range append(policies(), wrongPolicies()...) {
		room := append(slices.Clone(g.l), mark, mark, mark)
		was := slices.Clone(room)
		g.l = room[:len(g.l)]
		askAll(g)
		if !slices.Equal(room, was) {
			t.Errorf("%s: %v became %v", g.what, was, room)
		}
	}
}

// R3: what lies behind the end of a list is none of its edges.
func TestRoomIsNotRead(t *testing.T) {
	l := walk(0, 1, 2, 0)
	g := given{"a ring's first edges", 3, l[:1]}
	if at, e := policy.Check(3, append(walk(0, 1), edge(5, 5))[:1]); at != 0 || e != api.OK {
		t.Errorf("Check: %d, %d", at, e)
	}
	if may(t, g, 1, 2) || path(t, g, 1, 0) || !slices.Equal(above(t, g, 0), []int{0}) || !slices.Equal(groups(t, g), upTo(3)) {
		t.Error("edges behind the list's end count")
	}
}

// R3: nil and the empty list are the same.
func TestNilAndEmpty(t *testing.T) {
	for n := range domains + 2 {
		x, y := given{"nil", n, nil}, given{"the empty list", n, []api.Edge{}}
		if check(n, x.l) != check(n, y.l) {
			t.Errorf("%d domains: Check: %v of nil, %v of the empty list", n, check(n, x.l), check(n, y.l))
		}
		if n < 1 || n > domains {
			continue
		}
		if ask(t, x, may) != ask(t, y, may) || ask(t, x, path) != ask(t, y, path) || !slices.Equal(groups(t, x), groups(t, y)) {
			t.Errorf("%d domains: nil and the empty list differ", n)
		}
	}
}

// R3: what Above and Groups tell is new memory each time, its spare room too.
func TestToldIsNewMemory(t *testing.T) {
	for _, g := range namedPolicies() {
		x, y := above(t, g, 0), above(t, g, 0)
		u, v := groups(t, g), groups(t, g)
		was, were := slices.Clone(y), slices.Clone(v)
		for _, l := range [][]int{x[:cap(x)], u[:cap(u)]} {
			for i := range l {
				l[i] = -777
			}
		}
		if !slices.Equal(y, was) || !slices.Equal(v, were) || !slices.Equal(above(t, g, 0), was) || !slices.Equal(groups(t, g), were) {
			t.Errorf("%s: Above and Groups tell another thing behind a change of what they told", g.what)
		}
	}
}

// R4: nothing is kept: a policy is told the same again, whatever was asked, or changed in the list, in between.
func TestSameAgain(t *testing.T) {
	l := policies()
	for i, g := range l {
		m, p, u := ask(t, g, may), ask(t, g, path), groups(t, g)
		askAll(l[(i+7)%len(l)])
		kept := slices.Clone(g.l)
		for j := range g.l {
			g.l[j] = edge(0, 1)
		}
		askAll(g)
		copy(g.l, kept)
		if ask(t, g, may) != m || ask(t, g, path) != p || !slices.Equal(groups(t, g), u) {
			t.Fatalf("%s, %v: another answer than before", g.what, g.l)
		}
	}
}

// P7: several goroutines that ask about one list are told the same.
func TestSideBySide(t *testing.T) {
	g := given{"two rings that one edge joins", 6, append(twoRings(), edge(1, 5))}
	var join sync.WaitGroup
	told := make([][]int, 8)
	for i := range told {
		join.Go(func() {
			for of := range g.domains {
				x, _ := policy.Above(g.domains, g.l, of)
				y, _ := policy.Groups(g.domains, g.l)
				told[i] = slices.Concat(told[i], x, y)
			}
		})
	}
	join.Wait()
	for i := range told {
		if !slices.Equal(told[i], told[0]) {
			t.Errorf("goroutine %d was told %v, not %v", i, told[i], told[0])
		}
	}
}
