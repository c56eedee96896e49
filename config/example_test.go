package config_test

import (
	"testing"

	"rota/api"
)

// first is the lines of the chapter's first example.
func first() []string {
	return []string{"frame 10", "procs 1", "quantum 100", "check 61", "clock 0", "slot 0 0 0 10 0", "domain a 4 0", "func main", "exit", "end"}
}

// Z2, Z1, Z3: the chapter's first example: one domain, read, checked, and written again.
func TestExampleOfOneDomain(t *testing.T) {
	want := api.Config{
		Table:   api.Table{Frame: 10, Procs: [][]api.Slot{{slot(0, 0, 10, 0)}}},
		Quantum: 100, Check: 61, Clock: 0,
		Tenants: []api.Tenant{tenant("a", 4, 0, api.Program{Code: []uint32{0x18000000}, Funcs: []api.Func{{Begin: 0, End: 1}}})},
	}
	l := first()
	reads(t, text(l...), want)
	checks(t, "the example", want, 0, api.OK)
	l[7] = "func f0"
	if s := printed(t, want); s != text(l...) {
		t.Errorf("Print: %s", brief(s))
	}
}

// Z2: the chapter's first example without its end, and with a wrong line in its program.
func TestExampleOfWrongPrograms(t *testing.T) {
	l := first()
	wrong(t, text(l[:9]...), api.ErrCode, 7)
	l[8] = "exti"
	wrong(t, text(l...), api.ErrCode, 9)
}

// Z2: the chapter's second example: heads that are not there whole, and a P that there is not.
func TestExampleOfHeads(t *testing.T) {
	wrong(t, text("procs 1", "frame 10"), api.ErrHead, 1)
	wrong(t, text("frame 10"), api.ErrHead, 2)
	wrong(t, "frame 10", api.ErrHead, 2)
	wrong(t, text(append(head(1), "slot 1 0 0 10 0")...), api.ErrLine, 6)
}

// Z2, Z1: the chapter's second example: a port from a domain to itself is read, and refused by Check.
func TestExampleOfAPort(t *testing.T) {
	l := first()
	c := parsed(t, text(append(l, "port 0 0 sample")...))
	if len(c.Links) != 1 || c.Links[0] != sampled(0, 0) {
		t.Errorf("links: %+v", c.Links)
	}
	checks(t, "a port to itself", c, 0, api.ErrEdge)
}

// Z1, Z2: the second and the third example of the whole: a configuration that may be, and one with a slot of no domain.
func TestExamplesOfTheWhole(t *testing.T) {
	l := []string{"frame 4", "procs 1", "quantum 5", "check 3", "clock 0", "slot 0 0 0 4 0", "domain a 1 0", "func main", "set r1 7", "output r1", "exit", "end"}
	checks(t, "the second example", parsed(t, text(l...)), 0, api.OK)
	l[5] = "slot 0 1 0 4 0"
	checks(t, "the third example", parsed(t, text(l...)), 0, api.ErrOwner)
	wrong(t, "", api.ErrHead, 1)
}
