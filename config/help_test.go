package config_test

import (
	"fmt"
	"math"
	"math/rand/v2"
	"slices"
	"strconv"
	"strings"
	"testing"

	"rota/api"
	"rota/config"
	"rota/listing"
)

// text is lines with a newline behind each.
func text(lines ...string) string {
	var out strings.Builder
	for _, l := range lines {
		out.WriteString(l + "\n")
	}
	return out.String()
}

// brief is a text as a test tells it.
func brief(s string) string {
	if len(s) > 600 {
		s = s[:300] + " .. " + s[len(s)-300:]
	}
	return "«" + strings.ReplaceAll(s, "\n", "⏎") + "»"
}

// head is a head's lines, with so many Ps.
func head(procs int) []string {
	return []string{"frame 10", "procs " + strconv.Itoa(procs), "quantum 100", "check 61", "clock 0"}
}

// behind is the text of the lines of a head of two Ps, and of others behind them: the first of those is the line 6.
func behind(lines ...string) string { return text(append(head(2), lines...)...) }

// named is the lines of a domain by that name that exits.
func named(name string) []string {
	return []string{"domain " + name + " 4 0", "func main", "exit", "end"}
}

// program is the program of a text.
func program(lines ...string) api.Program {
	p, e, _ := listing.Parse(text(lines...))
	if e != api.OK {
		panic("a program of the tests may not be")
	}
	return p
}

// programs is some that may be.
func programs() []api.Program {
	return []api.Program{
		program("func main", "exit"),
		program("func f", "x:", "jump x"),
		program("func main", "set r1 7", "output r1", "exit"),
		program("func main", "spawn r1 f", "call f", "trap 7", "func f", "zero r2 y", "yield", "y:", "ret"),
		program("table t default", "send r1 r2", "recv r3 r4 r5", "table u", "table v default", "func main", "select r1 t", "select r2 u", "set r15 -32768", "exit"),
	}
}

// slot, link and tenant are one of each.
func slot(domain int, start, length, pad uint64) api.Slot {
	return api.Slot{Domain: domain, Window: api.Window{Start: start, Length: length}, Pad: pad}
}
func sampled(from, to int) api.Link      { return api.Link{From: from, To: to, Cap: 1} }
func queued(from, to, room int) api.Link { return api.Link{From: from, To: to, Queue: true, Cap: room} }
func tenant(name string, gs, cells int, p api.Program) api.Tenant {
	return api.Tenant{Name: name, Gs: gs, Cells: cells, Program: p}
}

// plain is a configuration of one P that so many domains have one by one.
func plain(domains int) api.Config {
	c := api.Config{Table: api.Table{Frame: 100, Procs: make([][]api.Slot, 1)}, Quantum: 5, Check: 3}
	for d := range domains {
		c.Table.Procs[0] = append(c.Table.Procs[0], slot(d, uint64(2*d), 2, 1))
		c.Tenants = append(c.Tenants, tenant("d"+strconv.Itoa(d), 1, 0, programs()[0]))
	}
	return c
}

// rich is one in which there is all that may be.
func rich() api.Config {
	p := programs()
	return api.Config{
		Table: api.Table{Frame: 20, Procs: [][]api.Slot{
			{slot(0, 0, 4, 1), slot(1, 4, 6, 0), slot(0, 12, 8, 7)}, nil, {slot(2, 19, 1, 0)}, {slot(1, 0, 20, 19)},
		}},
		Quantum: 100, Check: 61, Clock: math.MaxUint64,
		Tenants: []api.Tenant{tenant("a", 4, 0, p[3]), tenant("_b2", api.MaxGs, api.MaxCells, p[4]), tenant("A", 1, 1, p[1])},
		Links:   []api.Link{sampled(0, 1), queued(1, 0, 3), queued(0, 1, api.MaxBuffer), sampled(2, 0), queued(0, 1, 1)},
	}
}

// given is a configuration, and what it is.
type given struct {
	what string
	c    api.Config
}

// at is a configuration with a change.
func at(what string, c api.Config, change func(c *api.Config)) given {
	c = clone(c)
	change(&c)
	return given{what, c}
}

// namedConfigs is some that may be: those by which a call may go wrong.
func namedConfigs() []given {
	return []given{
		{"one domain", plain(1)},
		{"two domains", plain(2)},
		{"as many domains as may be", plain(16)},
		{"all that may be", rich()},
		at("no slot", plain(1), func(c *api.Config) { c.Table.Procs[0] = nil }),
		at("64 Ps, a slot of the last one", plain(3), func(c *api.Config) {
			c.Table.Procs = make([][]api.Slot, 64)
			c.Table.Procs[63] = []api.Slot{slot(2, 99, 1, 0)}
		}),
		at("the least numbers", plain(1), func(c *api.Config) { c.Quantum, c.Check, c.Table.Frame, c.Table.Procs[0] = 1, 1, 1, nil }),
		at("the greatest numbers", plain(1), func(c *api.Config) {
			c.Quantum, c.Check, c.Clock, c.Table.Frame = api.MaxQuantum, api.MaxQuantum, math.MaxUint64, api.MaxFrame
			c.Table.Procs[0] = []api.Slot{slot(0, 0, api.MaxFrame, api.MaxFrame-1)}
			c.Tenants[0].Gs, c.Tenants[0].Cells = api.MaxGs, api.MaxCells
		}),
		at("as many links as may be", plain(16), func(c *api.Config) {
			for n := range 64 {
				c.Links = append(c.Links, queued(n%16, (n+1+n/16)%16, n+1))
			}
		}),
		at("as many slots of a P as may be", plain(2), func(c *api.Config) {
			c.Table.Frame, c.Table.Procs = 2048, make([][]api.Slot, 3)
			for n := range api.MaxWins {
				c.Table.Procs[1] = append(c.Table.Procs[1], slot(n%2, uint64(2*n), 1, 0))
			}
		}),
		at("names that end like others", plain(3), func(c *api.Config) {
			c.Tenants[0].Name, c.Tenants[1].Name, c.Tenants[2].Name = "end", "domain", strings.Repeat("z", 32)
		}),
	}
}

// drawn is a configuration by chance that may be.
func drawn(r *rand.Rand) api.Config {
	c := api.Config{Quantum: 1 + r.Uint64N(api.MaxQuantum), Check: 1 + r.Uint64N(api.MaxQuantum), Clock: r.Uint64() >> r.IntN(64)}
	c.Table.Frame = 1 + r.Uint64N(api.MaxFrame)>>r.IntN(16)
	domains := 1 + r.IntN(16)
	c.Table.Procs = make([][]api.Slot, 1+r.IntN(64)>>r.IntN(6))
	for p := range c.Table.Procs {
		for start := r.Uint64N(40); start < c.Table.Frame && r.IntN(4) > 0; {
			long := 1 + r.Uint64N(c.Table.Frame-start)
			c.Table.Procs[p] = append(c.Table.Procs[p], slot(r.IntN(domains), start, long, r.Uint64N(long)))
			start += long + r.Uint64N(3)
		}
	}
	l := programs()
	for d := range domains {
		name := string(rune('a'+r.IntN(26))) + strings.Repeat("_", r.IntN(3)) + strconv.Itoa(d)
		c.Tenants = append(c.Tenants, tenant(name, 1+r.IntN(api.MaxGs), r.IntN(api.MaxCells+1), l[r.IntN(len(l))]))
	}
	for n := r.IntN(65); domains > 1 && n > 0; n-- {
		from := r.IntN(domains)
		to := (from + 1 + r.IntN(domains-1)) % domains
		if r.IntN(2) == 0 {
			c.Links = append(c.Links, sampled(from, to))
		} else {
			c.Links = append(c.Links, queued(from, to, 1+r.IntN(api.MaxBuffer)))
		}
	}
	return c
}

// configs is the named ones, and some by chance.
func configs() []given {
	l := namedConfigs()
	r := rand.New(rand.NewPCG(18, 1))
	for range 60 {
		l = append(l, given{"by chance", drawn(r)})
	}
	return l
}

// clone is a configuration that shares nothing with another one.
func clone(c api.Config) api.Config {
	c.Table.Procs = slices.Clone(c.Table.Procs)
	for p, l := range c.Table.Procs {
		c.Table.Procs[p] = slices.Clone(l)
	}
	c.Links = slices.Clone(c.Links)
	c.Tenants = slices.Clone(c.Tenants)
	for d := range c.Tenants {
		p := &c.Tenants[d].Program
		p.Code, p.Funcs, p.Tables = slices.Clone(p.Code), slices.Clone(p.Funcs), slices.Clone(p.Tables)
		for n := range p.Tables {
			p.Tables[n].Cases = slices.Clone(p.Tables[n].Cases)
		}
	}
	return c
}

// told is all of a configuration as text, in which nil and the empty list are the same.
func told(c api.Config) string { return fmt.Sprintf("%+v", c) }

// same tells whether two configurations are.
func same(a, b api.Config) bool { return told(a) == told(b) }

// checks asks Check of a configuration.
func checks(t *testing.T, what string, c api.Config, place int, e api.Errno) {
	t.Helper()
	if n, f := config.Check(c); n != place || f != e {
		t.Errorf("%s: Check(%s): %d, %d, not %d, %d", what, brief(told(c)), n, f, place, e)
	}
}

// reads asks for a text's configuration.
func reads(t *testing.T, s string, want api.Config) {
	t.Helper()
	c, e, line := config.Parse(s)
	if !same(c, want) || e != api.OK || line != 0 {
		t.Errorf("Parse(%s): %s, %d, %d, not %s", brief(s), brief(told(c)), e, line, brief(told(want)))
	}
}

// parsed is the configuration of a text that may be.
func parsed(t *testing.T, s string) api.Config {
	t.Helper()
	c, e, line := config.Parse(s)
	if e != api.OK || line != 0 {
		t.Errorf("Parse(%s): %d, %d", brief(s), e, line)
	}
	return c
}

// wrong asks for what is refused of a text, and where; nothing is told beside it.
func wrong(t *testing.T, s string, e api.Errno, line int) {
	t.Helper()
	c, f, n := config.Parse(s)
	if !same(c, api.Config{}) || f != e || n != line {
		t.Errorf("Parse(%s): %s, %d, %d, not %d, %d", brief(s), brief(told(c)), f, n, e, line)
	}
}

// printed is the text of a configuration that may be.
func printed(t *testing.T, c api.Config) string {
	t.Helper()
	s, e := config.Print(c)
	if e != api.OK {
		t.Errorf("Print(%s): %d", brief(told(c)), e)
	}
	return s
}

// unprinted asks for what is refused of a configuration.
func unprinted(t *testing.T, what string, c api.Config, e api.Errno) {
	t.Helper()
	if s, f := config.Print(c); s != "" || f != e {
		t.Errorf("%s: Print(%s): %s, %d, not %d", what, brief(told(c)), brief(s), f, e)
	}
}

// odd is numbers that no domain, size, or capacity has.
func odd() []int { return []int{-1, -2, 1 << 31, 1 << 32, 1<<32 + 1, math.MaxInt, math.MinInt} }

// edges asks Edges.
func edges(c api.Config) []api.Edge { return config.Edges(c) }

// itoa is a number as a word.
func itoa(n int) string { return strconv.Itoa(n) }
