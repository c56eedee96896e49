package config_test

import (
	"math"
	"slices"
	"strings"
	"testing"

	"rota/api"
	"rota/listing"
)

// Z3: all that may be, as text, written out.
func TestPrintOfAll(t *testing.T) {
	want := text(
		"frame 20", "procs 4", "quantum 100", "check 61", "clock 18446744073709551615",
		"slot 0 0 0 4 1", "slot 0 1 4 6 0", "slot 0 0 12 8 7", "slot 2 2 19 1 0", "slot 3 1 0 20 19",
		"port 0 1 sample", "port 1 0 queue 3", "port 0 1 queue 1024", "port 2 0 sample", "port 0 1 queue 1",
		"domain a 4 0",
		"func f0", "spawn r1 f1", "call f1", "trap 7", "func f1", "zero r2 L5", "yield", "L5:", "ret",
		"end",
		"domain _b2 4096 256",
		"table t0 default", "send r1 r2", "recv r3 r4 r5", "table t1", "table t2 default", "func f0", "select r1 t0", "select r2 t1", "set r15 -32768", "exit",
		"end",
		"domain A 1 1",
		"func f0", "L0:", "jump L0",
		"end",
	)
	if s := printed(t, rich()); s != want {
		t.Errorf("Print: %s, not %s", s, want)
	}
}

// Z3: each number stands where it must, whatever it is.
func TestPrintOfNumbers(t *testing.T) {
	c := plain(2)
	c.Table = api.Table{Frame: 65536, Procs: [][]api.Slot{nil, {slot(1, 65000, 536, 535)}}}
	c.Quantum, c.Check, c.Clock = 65536, 65535, math.MaxUint64-1
	c.Links = []api.Link{queued(1, 0, 1024)}
	c.Tenants[0].Gs, c.Tenants[0].Cells = 4095, 255
	want := text("frame 65536", "procs 2", "quantum 65536", "check 65535", "clock 18446744073709551614", "slot 1 1 65000 536 535", "port 1 0 queue 1024",
		"domain d0 4095 255", "func f0", "exit", "end", "domain d1 1 0", "func f0", "exit", "end")
	if s := printed(t, c); s != want {
		t.Errorf("Print: %s, not %s", s, want)
	}
}

// Z3: without slots and ports there are no lines of them.
func TestPrintOfLittle(t *testing.T) {
	c := plain(1)
	c.Table.Procs[0] = nil
	want := text("frame 100", "procs 1", "quantum 5", "check 3", "clock 0", "domain d0 1 0", "func f0", "exit", "end")
	if s := printed(t, c); s != want {
		t.Errorf("Print: %s, not %s", s, want)
	}
}

// Z3: each program is written as layer 7 tells it, each domain's its own.
func TestPrintOfPrograms(t *testing.T) {
	c := plain(5)
	var want strings.Builder
	for d, p := range programs() {
		c.Tenants[d].Program = p
		s, e := listing.Print(p)
		if e != api.OK {
			t.Fatalf("layer 7: %d", e)
		}
		want.WriteString("domain " + c.Tenants[d].Name + " 1 0\n" + s + "end\n")
	}
	if s := printed(t, c); !strings.HasSuffix(s, "\nslot 0 4 8 2 1\n"+want.String()) {
		t.Errorf("Print: %s, not %s", s, want.String())
	}
}

// Z3: what Check refuses.
func TestPrintOfWhatCheckRefuses(t *testing.T) {
	for _, x := range faults() {
		c := rich()
		x.change(&c)
		unprinted(t, x.what, c, x.e)
	}
	for _, p := range wrongPrograms() {
		c := plain(3)
		c.Tenants[2].Program = p
		unprinted(t, "a program", c, api.ErrCode)
	}
	unprinted(t, "nothing", api.Config{}, api.ErrTenants)
}

// filled is a configuration whose text has just so many bytes more than MaxText.
func filled(t *testing.T, more int) api.Config {
	t.Helper()
	c := plain(1)
	c.Table = api.Table{Frame: 2048, Procs: make([][]api.Slot, 64)}
	left := api.MaxText + more - len(printed(t, c))
	for p := range c.Table.Procs {
		for n := uint64(0); n < api.MaxWins && left > 30; n++ {
			c.Table.Procs[p] = append(c.Table.Procs[p], slot(0, 1000+n, 1, 0))
			left -= len(text("slot " + itoa(p) + " 0 " + itoa(1000+int(n)) + " 1 0"))
		}
	}
	// What is missing yet the domain's name fills.
	c.Tenants[0].Name = "d0" + strings.Repeat("x", left)
	return c
}

// Z3: a text may have 262144 bytes, and not one more.
func TestPrintOfLongTexts(t *testing.T) {
	for more := -3; more <= 3; more++ {
		c := filled(t, more)
		checks(t, "a long text", c, 0, api.OK)
		if more > 0 {
			unprinted(t, "a text too long", c, api.ErrFull)
			continue
		}
		s := printed(t, c)
		if len(s) != api.MaxText+more {
			t.Errorf("%d bytes, not %d", len(s), api.MaxText+more)
		}
		reads(t, s, c)
	}
}

// Z3, R2: what Check refuses comes ahead of a text that is too long.
func TestPrintOfLongTextsThatCheckRefuses(t *testing.T) {
	c := filled(t, 1)
	c.Tenants[0].Cells = 257
	unprinted(t, "a text too long", c, api.ErrSizes)
}

// Z3: a text that is too long by its programs alone.
func TestPrintOfLongPrograms(t *testing.T) {
	l := []string{"func main"}
	for range api.MaxCode - 1 {
		l = append(l, "set r10 -32768")
	}
	c := plain(6)
	for d := range c.Tenants {
		c.Tenants[d].Program = program(append(l, "exit")...)
	}
	unprinted(t, "six long programs", c, api.ErrFull)
	c.Tenants, c.Table.Procs[0] = c.Tenants[:4], c.Table.Procs[0][:4]
	if s := printed(t, c); strings.Count(s, "set r10 -32768\n") != 4*(api.MaxCode-1) {
		t.Errorf("four long programs: %s", brief(s))
	}
}

// Z4: Edges is from and to of each link, in order.
func TestEdges(t *testing.T) {
	want := []api.Edge{{From: 0, To: 1}, {From: 1, To: 0}, {From: 0, To: 1}, {From: 2, To: 0}, {From: 0, To: 1}}
	if l := edges(rich()); !slices.Equal(l, want) {
		t.Errorf("Edges: %v", l)
	}
	if l := edges(plain(16)); len(l) != 0 {
		t.Errorf("Edges of no links: %v", l)
	}
	for _, g := range configs() {
		l := edges(g.c)
		if len(l) != len(g.c.Links) {
			t.Errorf("%s: %d edges of %d links", g.what, len(l), len(g.c.Links))
			continue
		}
		for n, x := range g.c.Links {
			if l[n].From != x.From || l[n].To != x.To {
				t.Errorf("%s: edge %d: %v of %v", g.what, n, l[n], x)
			}
		}
	}
}

// Z4: Edges is told of links that may not be, too, of as many as there are, and whatever else there is.
func TestEdgesOfWhatMayNotBe(t *testing.T) {
	var c api.Config
	var want []api.Edge
	for _, a := range append(odd(), 0, 3, 16) {
		for _, b := range append(odd(), 0, 3, 16) {
			c.Links = append(c.Links, api.Link{From: a, To: b, Queue: a < b, Cap: a})
			want = append(want, api.Edge{From: a, To: b})
		}
	}
	if l := edges(c); !slices.Equal(l, want) {
		t.Errorf("Edges: %v, not %v", l, want)
	}
}
