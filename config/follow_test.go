package config_test

import (
	"testing"

	"rota/api"
	"rota/local"
	"rota/policy"
	"rota/port"
	"rota/proper"
	"rota/table"
)

// Z5: Parse brings back what Print wrote, and Print of that is the same text.
func TestThereAndBack(t *testing.T) {
	for _, g := range configs() {
		s := printed(t, g.c)
		reads(t, s, g.c)
		if again := printed(t, parsed(t, s)); again != s {
			t.Errorf("%s: %s, not %s", g.what, brief(again), brief(s))
		}
	}
}

// Z5: of cases that send a field is not used; layer 8 lets it be 0 alone, so nothing is lost.
func TestThereAndBackOfCases(t *testing.T) {
	c := rich()
	if !c.Tenants[1].Program.Tables[0].Cases[0].Send {
		t.Fatal("no case that sends")
	}
	reads(t, printed(t, c), c)
	c = clone(c)
	c.Tenants[1].Program.Tables[0].Cases[0].Ok = 5
	unprinted(t, "a field that is not used", c, api.ErrCode)
}

// Z6: what Check takes the layers 16, 17 and 20 take, domain by domain; and those that they stand on.
func TestLayersTakeWhatCheckTakes(t *testing.T) {
	for _, g := range configs() {
		checks(t, g.what, g.c, 0, api.OK)
		domains := len(g.c.Tenants)
		if p, s, e := table.Check(g.c.Table, domains); e != api.OK {
			t.Errorf("%s: layer 16: %d, %d, %d", g.what, p, s, e)
		}
		if n, e := policy.Check(domains, edges(g.c)); e != api.OK {
			t.Errorf("%s: layer 17: %d, %d", g.what, n, e)
		}
		for n, l := range g.c.Links {
			if _, e := port.New(l.Queue, l.Cap); e != api.OK {
				t.Errorf("%s: layer 15: link %d: %d", g.what, n, e)
			}
		}
		for d, x := range g.c.Tenants {
			if at, e := proper.Check(x.Program); e != api.OK {
				t.Errorf("%s: layer 8: domain %d: %d, %d", g.what, d, at, e)
			}
			if _, e := local.New(x, d, len(g.c.Table.Procs), g.c.Links, nil); e != api.OK {
				t.Errorf("%s: layer 20: domain %d: %d", g.what, d, e)
			}
		}
	}
}

// Z6: of what Check refuses for a layer's sake that layer refuses it, too: Check lets nothing through.
func TestLayersRefuseWhatCheckRefuses(t *testing.T) {
	for _, x := range faults() {
		c := rich()
		x.change(&c)
		domains := len(c.Tenants)
		_, _, a := table.Check(c.Table, domains)
		_, b := policy.Check(domains, edges(c))
		switch x.e {
		case api.ErrFrame, api.ErrWindow, api.ErrOwner, api.ErrMeet:
			if a != x.e {
				t.Errorf("%s: layer 16: %d", x.what, a)
			}
		case api.ErrEdge:
			if b != x.e {
				t.Errorf("%s: layer 17: %d", x.what, b)
			}
		}
	}
}
