package config_test

import (
	"slices"
	"strings"
	"sync"
	"testing"

	"rota/api"
	"rota/config"
)

// The marks that lists are written over with.
var (
	markSlot   = slot(-777, 777, 777, 777)
	markLink   = api.Link{From: -777, To: -777, Queue: true, Cap: -777}
	markTenant = api.Tenant{Name: "spoiled", Gs: -777, Cells: -777}
	markCase   = api.Case{Send: true, Chan: -777, Val: -777, Ok: -777}
)

// over writes a mark over all of a list, and over the room behind its end.
func over[T any](l []T, mark T) {
	l = l[:cap(l)]
	for n := range l {
		l[n] = mark
	}
}

// spoil writes over all of a configuration, and over the room behind its lists' ends.
func spoil(c api.Config) {
	for _, l := range c.Table.Procs {
		over(l, markSlot)
	}
	over(c.Table.Procs, []api.Slot{markSlot})
	for _, x := range c.Tenants {
		over(x.Program.Code, 0xFFFFFFFF)
		over(x.Program.Funcs, api.Func{Begin: -777, End: -777})
		for _, t := range x.Program.Tables {
			over(t.Cases, markCase)
		}
		over(x.Program.Tables, api.CaseTable{Cases: []api.Case{markCase}})
	}
	over(c.Tenants, markTenant)
	over(c.Links, markLink)
}

// roomy is a list with marks in the room behind its end.
func roomy[T any](l []T, mark T) []T {
	return append(slices.Clone(l), mark, mark, mark)[:len(l)]
}

// withRoom is a configuration whose lists have marks in the room behind their ends.
func withRoom(c api.Config) api.Config {
	c = clone(c)
	for p, l := range c.Table.Procs {
		c.Table.Procs[p] = roomy(l, markSlot)
	}
	c.Table.Procs = roomy(c.Table.Procs, []api.Slot{markSlot})
	for d := range c.Tenants {
		p := &c.Tenants[d].Program
		for n := range p.Tables {
			p.Tables[n].Cases = roomy(p.Tables[n].Cases, markCase)
		}
		p.Code, p.Funcs, p.Tables = roomy(p.Code, 0xFFFFFFFF), roomy(p.Funcs, api.Func{Begin: -777, End: -777}), roomy(p.Tables, api.CaseTable{Default: true})
	}
	c.Tenants, c.Links = roomy(c.Tenants, markTenant), roomy(c.Links, markLink)
	return c
}

// wholly is all of a configuration as text, the room behind its lists' ends too.
func wholly(c api.Config) string {
	c = clone(api.Config{Table: api.Table{Procs: c.Table.Procs[:cap(c.Table.Procs)]}, Tenants: c.Tenants[:cap(c.Tenants)], Links: c.Links[:cap(c.Links)]})
	var out strings.Builder
	out.WriteString(told(c))
	for _, l := range c.Table.Procs {
		out.WriteString(told(api.Config{Table: api.Table{Procs: [][]api.Slot{l[:cap(l)]}}}))
	}
	for _, x := range c.Tenants {
		p := x.Program
		p.Code, p.Funcs, p.Tables = p.Code[:cap(p.Code)], p.Funcs[:cap(p.Funcs)], slices.Clone(p.Tables[:cap(p.Tables)])
		for n, t := range p.Tables {
			p.Tables[n].Cases = t.Cases[:cap(t.Cases)]
		}
		out.WriteString(told(api.Config{Tenants: []api.Tenant{{Program: p}}}))
	}
	return out.String()
}

// R3: a configuration that is handed in stays as it was, also the room behind its lists' ends, whether or not it may be; and what is in that room is not read.
func TestHandedInStays(t *testing.T) {
	l := configs()
	for _, x := range faults() {
		l = append(l, at(x.what, rich(), x.change))
	}
	for _, g := range l {
		place, e := config.Check(g.c)
		s, f := config.Print(g.c)
		arrows := edges(g.c)
		c := withRoom(g.c)
		was := wholly(c)
		checks(t, g.what, c, place, e)
		if again, h := config.Print(c); again != s || h != f {
			t.Errorf("%s: Print with room behind the lists: %s, %d, not %s, %d", g.what, brief(again), h, brief(s), f)
		}
		if !slices.Equal(edges(c), arrows) {
			t.Errorf("%s: Edges with room behind the lists: %v, not %v", g.what, edges(c), arrows)
		}
		if wholly(c) != was {
			t.Errorf("%s: changed", g.what)
		}
	}
}

// R3: nil and the empty list are the same.
func TestNilAndEmpty(t *testing.T) {
	bare := plain(2)
	bare.Table.Procs[0], bare.Links = nil, nil
	empty := clone(bare)
	empty.Table.Procs[0], empty.Links = []api.Slot{}, []api.Link{}
	for d := range empty.Tenants {
		empty.Tenants[d].Program.Tables = []api.CaseTable{}
		bare.Tenants[d].Program.Tables = nil
	}
	checks(t, "nil", bare, 0, api.OK)
	checks(t, "the empty list", empty, 0, api.OK)
	if printed(t, bare) != printed(t, empty) {
		t.Errorf("%s, and %s", printed(t, bare), printed(t, empty))
	}
	if len(edges(bare)) != 0 || len(edges(empty)) != 0 {
		t.Error("edges of no links")
	}
	for _, c := range []api.Config{{Tenants: []api.Tenant{}}, {}} {
		checks(t, "no domain", c, 0, api.ErrTenants)
	}
	empty.Table.Procs = [][]api.Slot{}
	checks(t, "no P", empty, 0, api.ErrFrame)
	empty = plain(1)
	empty.Tenants[0].Program = api.Program{Code: []uint32{}, Funcs: []api.Func{}, Tables: []api.CaseTable{}}
	checks(t, "no code", empty, 0, api.ErrCode)
}

// R3, R4: a configuration that Parse told is new memory, its spare room too, each of its lists by itself.
func TestParsedIsNewMemory(t *testing.T) {
	for _, g := range namedConfigs() {
		s := printed(t, g.c)
		x, y := parsed(t, s), parsed(t, s)
		spoil(x)
		if !same(y, g.c) {
			t.Errorf("%s: what was told another time is spoiled", g.what)
		}
		reads(t, s, g.c)
	}
}

// R3: no two lists of a configuration that Parse told share any memory: to spoil one, and the room behind it, leaves the others.
func TestParsedListsShareNothing(t *testing.T) {
	s := printed(t, rich())
	for p := range rich().Table.Procs {
		c := parsed(t, s)
		over(c.Table.Procs[p], markSlot)
		c.Table.Procs[p] = slices.Clone(rich().Table.Procs[p])
		if !same(c, rich()) {
			t.Errorf("the slots of the P %d are shared", p)
		}
	}
	for d := range rich().Tenants {
		c, whole := parsed(t, s), rich().Tenants[d].Program
		p := &c.Tenants[d].Program
		for n := range p.Tables {
			over(p.Tables[n].Cases, markCase)
			p.Tables[n].Cases = whole.Tables[n].Cases
			if !same(c, rich()) {
				t.Errorf("the cases of the table %d are shared", n)
			}
		}
		over(p.Code, 0xFFFFFFFF)
		over(p.Funcs, api.Func{Begin: -777})
		over(p.Tables, api.CaseTable{})
		*p = whole
		if !same(c, rich()) {
			t.Errorf("the program of the domain %d is shared", d)
		}
	}
	c := parsed(t, s)
	over(c.Links, markLink)
	c.Links = rich().Links
	if !same(c, rich()) {
		t.Error("the links are shared")
	}
}

// R3: what Edges tells is new memory each time, its spare room too.
func TestEdgesAreNewMemory(t *testing.T) {
	c := rich()
	x, y := edges(c), edges(c)
	was := slices.Clone(y)
	over(x, api.Edge{From: -777, To: -777})
	if !slices.Equal(y, was) || !slices.Equal(edges(c), was) || !same(c, rich()) {
		t.Errorf("%v, not %v", y, was)
	}
}

// R4: nothing is kept: the same is told again, whatever was asked, or refused, in between.
func TestSameAgain(t *testing.T) {
	l := configs()
	for n, g := range l {
		s := printed(t, g.c)
		other := l[(n+5)%len(l)].c
		parsed(t, printed(t, other))
		wrong(t, s+"x", api.ErrLine, strings.Count(s, "\n")+1)
		wrong(t, "x", api.ErrHead, 1)
		other.Quantum = 0
		unprinted(t, "no quantum", other, api.ErrQuantum)
		reads(t, s, g.c)
		if again := printed(t, g.c); again != s {
			t.Errorf("%s: %s, not %s", g.what, brief(again), brief(s))
		}
	}
}

// P7: several goroutines that ask about one configuration, and read texts that may be and others, are told the same.
func TestSideBySide(t *testing.T) {
	c := rich()
	s, bad := printed(t, c), printed(t, c)+"slot 0"
	var join sync.WaitGroup
	all := make([]string, 8)
	for n := range all {
		join.Go(func() {
			for range 20 {
				a, _ := config.Print(c)
				place, e := config.Check(c)
				x, f, at := config.Parse(s)
				y, h, line := config.Parse(bad)
				all[n] += a + itoa(place) + itoa(int(e)) + told(x) + itoa(int(f)) + itoa(at) + told(y) + itoa(int(h)) + itoa(line) + itoa(len(config.Edges(c)))
			}
		})
	}
	join.Wait()
	for n := range all {
		if all[n] != all[0] {
			t.Errorf("goroutine %d was told something else", n)
		}
	}
}
