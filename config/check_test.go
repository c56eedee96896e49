package config_test

import (
	"math"
	"strconv"
	"strings"
	"testing"

	"rota/api"
	"rota/config"
	"rota/table"
)

// Z1: Check takes configurations that may be.
func TestCheckOfWhatMayBe(t *testing.T) {
	for _, g := range configs() {
		checks(t, g.what, g.c, 0, api.OK)
	}
}

// Z1: there are 1 to 16 domains.
func TestCheckOfNumbersOfDomains(t *testing.T) {
	for n := range 40 {
		c := plain(n)
		want := api.OK
		if n < 1 || n > 16 {
			want = api.ErrTenants
		}
		checks(t, "so many domains", c, 0, want)
	}
	checks(t, "nothing", api.Config{}, 0, api.ErrTenants)
}

// Z1: the quantum and the looks are 1 to 65536, each by itself.
func TestCheckOfQuantumAndCheck(t *testing.T) {
	for n, may := range map[uint64]bool{0: false, 1: true, 2: true, 61: true, 65535: true, 65536: true, 65537: false, 1 << 32: false, 1<<32 + 1: false, 1 << 63: false, math.MaxUint64: false} {
		c, d := rich(), rich()
		c.Quantum, d.Check = n, n
		if may {
			checks(t, "a quantum", c, 0, api.OK)
			checks(t, "looks", d, 0, api.OK)
		} else {
			checks(t, "a quantum", c, 0, api.ErrQuantum)
			checks(t, "looks", d, 0, api.ErrCheck)
		}
	}
}

// Z1: any clock may be.
func TestCheckOfClocks(t *testing.T) {
	for _, n := range []uint64{0, 1, 65537, 1 << 63, math.MaxUint64 - 1, math.MaxUint64} {
		c := rich()
		c.Clock = n
		checks(t, "a clock", c, 0, api.OK)
	}
}

// Z1: what layer 16 refuses of the table, and its P.
func TestCheckOfTables(t *testing.T) {
	for _, x := range []struct {
		what   string
		change func(t *api.Table)
		p      int
		e      api.Errno
	}{
		{"no frame", func(t *api.Table) { t.Frame = 0 }, 0, api.ErrFrame},
		{"a frame too long", func(t *api.Table) { t.Frame = api.MaxFrame + 1 }, 0, api.ErrFrame},
		{"no P", func(t *api.Table) { t.Procs = nil }, 0, api.ErrFrame},
		{"64 Ps", func(t *api.Table) { t.Procs = make([][]api.Slot, 64) }, 0, api.OK},
		{"65 Ps", func(t *api.Table) { t.Procs = make([][]api.Slot, 65) }, 0, api.ErrFrame},
		{"too many slots", func(t *api.Table) { t.Procs[1] = make([]api.Slot, api.MaxWins+1) }, 1, api.ErrFull},
		{"a window beyond the frame", func(t *api.Table) { t.Procs[3][0] = slot(0, 1, 20, 0) }, 3, api.ErrWindow},
		{"a window of nothing", func(t *api.Table) { t.Procs[2][0] = slot(0, 1, 0, 0) }, 2, api.ErrWindow},
		{"a pad as long as its window", func(t *api.Table) { t.Procs[0][1].Pad = 6 }, 0, api.ErrWindow},
		{"a slot of the last domain", func(t *api.Table) { t.Procs[3][0].Domain = 2 }, 0, api.OK},
		{"a slot of a domain behind it", func(t *api.Table) { t.Procs[3][0].Domain = 3 }, 3, api.ErrOwner},
		{"a slot of a domain below 0", func(t *api.Table) { t.Procs[0][0].Domain = -1 }, 0, api.ErrOwner},
		{"slots that meet", func(t *api.Table) { t.Procs[2] = []api.Slot{slot(0, 0, 4, 0), slot(0, 3, 2, 0)} }, 2, api.ErrMeet},
		{"two Ps are wrong", func(t *api.Table) { t.Procs[3][0].Domain, t.Procs[2][0].Window.Length = 9, 30 }, 2, api.ErrWindow},
	} {
		c := rich()
		x.change(&c.Table)
		checks(t, x.what, c, x.p, x.e)
		if p, _, e := table.Check(c.Table, 3); p != x.p || e != x.e {
			t.Errorf("%s: layer 16 tells %d, %d", x.what, p, e)
		}
	}
}

// Z1: each number of domains is the one by which a slot's domain is there or not.
func TestCheckOfOwners(t *testing.T) {
	for n := 1; n <= 16; n++ {
		for d := range 18 {
			c := plain(n)
			c.Table.Procs = append(c.Table.Procs, []api.Slot{slot(d, 0, 1, 0)})
			if d < n {
				checks(t, "a slot's domain", c, 0, api.OK)
			} else {
				checks(t, "a slot's domain", c, 1, api.ErrOwner)
			}
		}
	}
}

// Z1: at most 64 links, whichever the others are.
func TestCheckOfNumbersOfLinks(t *testing.T) {
	c := plain(2)
	for n := range 70 {
		if n <= 64 {
			checks(t, "so many links", c, 0, api.OK)
		} else {
			checks(t, "so many links", c, 0, api.ErrFull)
		}
		c.Links = append(c.Links, sampled(n%2, 1-n%2))
	}
	c.Links[3] = sampled(0, 0)
	checks(t, "too many links, one to itself", c, 0, api.ErrFull)
}

// Z1: a link is from a domain to another one.
func TestCheckOfEnds(t *testing.T) {
	for n := 1; n <= 16; n++ {
		c := plain(n)
		for from := -2; from < 18; from++ {
			for to := -2; to < 18; to++ {
				c.Links = []api.Link{queued(from, to, 2)}
				if 0 <= from && from < n && 0 <= to && to < n && from != to {
					checks(t, "a link", c, 0, api.OK)
				} else {
					checks(t, "a link", c, 0, api.ErrEdge)
				}
			}
		}
		for _, x := range append(odd(), n) {
			for _, l := range []api.Link{sampled(x, 0), sampled(0, x), sampled(x, x), sampled(x, n)} {
				c.Links = []api.Link{l}
				checks(t, "a link from or to nobody", c, 0, api.ErrEdge)
			}
		}
	}
}

// Z1: a sampled port has the capacity 1, a queued one 1 to 1024.
func TestCheckOfCapacities(t *testing.T) {
	for _, room := range append(odd(), 0, 1, 2, 3, 1023, 1024, 1025) {
		c := plain(2)
		c.Links = []api.Link{sampled(0, 1), queued(1, 0, room)}
		if 1 <= room && room <= 1024 {
			checks(t, "a queued port", c, 0, api.OK)
		} else {
			checks(t, "a queued port", c, 1, api.ErrArg)
		}
		c.Links = []api.Link{{From: 1, To: 0, Cap: room}}
		if room == 1 {
			checks(t, "a sampled port", c, 0, api.OK)
		} else {
			checks(t, "a sampled port", c, 0, api.ErrArg)
		}
	}
}

// Z1: of several links that are wrong the first one, and of one that is wrong twice its ends.
func TestCheckTellsTheFirstLink(t *testing.T) {
	for _, x := range []api.Link{sampled(2, 2), sampled(0, 3), queued(0, 1, 0), {From: 0, To: 1, Cap: 2}} {
		e := api.ErrArg
		if x.From == x.To || x.To > 2 {
			e = api.ErrEdge
		}
		for n := range 12 {
			c := plain(3)
			for range 12 {
				c.Links = append(c.Links, sampled(0, 1))
			}
			c.Links[n] = x
			checks(t, "one link", c, n, e)
			for behind := n + 1; behind < 12; behind++ {
				c.Links[behind] = sampled(1, 1)
				checks(t, "one more behind it", c, n, e)
				c.Links[behind] = queued(1, 0, 0)
				checks(t, "one more behind it", c, n, e)
			}
		}
	}
	c := plain(3)
	c.Links = []api.Link{sampled(0, 1), queued(1, 1, 0)}
	checks(t, "to itself, and no room", c, 1, api.ErrEdge)
}

// Z1: a name begins with a letter or '_', has letters, digits and '_' alone, and at most 32 bytes.
func TestCheckOfNames(t *testing.T) {
	long := strings.Repeat("abcdefgh", 4)
	for _, w := range []string{"a", "Z", "_", "z9", "_0", "end", "domain", "r1", "A_b_C_9", "aZ", "AZaz09_", long, long[:31] + "_", long[:31] + "0"} {
		c := plain(2)
		c.Tenants[1].Name = w
		checks(t, "a name", c, 0, api.OK)
	}
	for _, w := range []string{"", " ", "0", "9a", "-a", "a-b", "a b", "a ", " a", "a\n", "a\t", "a;b", "a:", "#a", "a#", "a.b", "é", "aé", "a\x80", "\xff", "a\x00", "[", "`", "{", "@", "/", "a/", "a:b", "a@", "a[", "a`", "a{", long + "a", long + "_", strings.Repeat("x", 1<<16)} {
		c := plain(2)
		c.Tenants[1].Name = w
		checks(t, "no name", c, 1, api.ErrCalled)
	}
}

// Z1: of each byte whether it may begin a name, and whether it may stand in one.
func TestCheckOfEachByteOfAName(t *testing.T) {
	for b := range 256 {
		letter := 'a' <= b && b <= 'z' || 'A' <= b && b <= 'Z' || b == '_'
		digit := '0' <= b && b <= '9'
		for w, may := range map[string]bool{string([]byte{byte(b)}): letter, string([]byte{byte(b), 'q'}): letter, string([]byte{'q', byte(b)}): letter || digit, string([]byte{'q', byte(b), 'q'}): letter || digit} {
			c := plain(1)
			c.Tenants[0].Name = w
			if may {
				checks(t, "a name", c, 0, api.OK)
			} else {
				checks(t, "no name", c, 0, api.ErrCalled)
			}
		}
	}
}

// Z1: no two domains have one name; the one behind is wrong.
func TestCheckOfOneNameTwice(t *testing.T) {
	for a := range 16 {
		for b := a + 1; b < 16; b++ {
			c := plain(16)
			c.Tenants[a].Name = c.Tenants[b].Name
			checks(t, "one name twice", c, b, api.ErrCalled)
			c.Tenants[b].Name = "D" + strconv.Itoa(b)
			checks(t, "names that differ by a letter's size alone", c, 0, api.OK)
		}
	}
}

// Z1: goroutines are 1 to 4096, cells 0 to 256, each by itself.
func TestCheckOfSizes(t *testing.T) {
	for _, n := range append(odd(), 0, 1, 2, 255, 256, 257, 4095, 4096, 4097, 65536) {
		c := plain(3)
		c.Tenants[2].Gs = n
		if 1 <= n && n <= 4096 {
			checks(t, "goroutines", c, 0, api.OK)
		} else {
			checks(t, "goroutines", c, 2, api.ErrSizes)
		}
		c = plain(3)
		c.Tenants[1].Cells = n
		if 0 <= n && n <= 256 {
			checks(t, "cells", c, 0, api.OK)
		} else {
			checks(t, "cells", c, 1, api.ErrSizes)
		}
	}
}

// wrongPrograms is programs that layer 8 refuses, in all its ways.
func wrongPrograms() []api.Program {
	one := func(words ...uint32) api.Program {
		return api.Program{Code: words, Funcs: []api.Func{{Begin: 0, End: len(words)}}}
	}
	long := make([]uint32, api.MaxCode+1)
	for n := range long {
		long[n] = 0x18000000
	}
	sends := programs()[4]
	sends.Tables = []api.CaseTable{{Cases: []api.Case{{Send: true, Chan: 1, Val: 2, Ok: 3}}}, {}, {}}
	return []api.Program{
		{},
		{Code: []uint32{0x18000000}},
		{Code: []uint32{0x18000000}, Funcs: []api.Func{{Begin: 0, End: 2}}},
		one(),
		one(0),
		one(0xFFFFFFFF),
		one(0x02100005),
		one(long...),
		program("func main", "jump 1", "func f", "exit"),
		program("func main", "call 1", "exit"),
		program("func main", "select r1 0", "exit"),
		sends,
	}
}

// Z1: what layer 8 refuses of a program, in all its ways.
func TestCheckOfPrograms(t *testing.T) {
	for _, p := range wrongPrograms() {
		for _, d := range []int{0, 1, 15} {
			c := plain(16)
			c.Tenants[d].Program = p
			checks(t, "a program", c, d, api.ErrCode)
		}
	}
}

// fault is something wrong with rich: its place, and its error.
type fault struct {
	what   string
	change func(c *api.Config)
	place  int
	e      api.Errno
}

// faults is one of each kind, and at several places, in the order in which Check must tell them.
func faults() []fault {
	none := api.Program{}
	return []fault{
		{"no domain", func(c *api.Config) { c.Tenants = nil }, 0, api.ErrTenants},
		{"too many domains", func(c *api.Config) { c.Tenants = append(c.Tenants, make([]api.Tenant, 14)...) }, 0, api.ErrTenants},
		{"no quantum", func(c *api.Config) { c.Quantum = 0 }, 0, api.ErrQuantum},
		{"no looks", func(c *api.Config) { c.Check = 65537 }, 0, api.ErrCheck},
		{"no frame", func(c *api.Config) { c.Table.Frame = 0 }, 0, api.ErrFrame},
		{"a slot of nobody on the P 0", func(c *api.Config) { c.Table.Procs[0][1].Domain = 7 }, 0, api.ErrOwner},
		{"no window on the P 2", func(c *api.Config) { c.Table.Procs[2][0].Window.Length = 2 }, 2, api.ErrWindow},
		{"slots that meet on the P 3", func(c *api.Config) { c.Table.Procs[3] = append(c.Table.Procs[3], slot(0, 10, 1, 0)) }, 3, api.ErrMeet},
		{"too many links", func(c *api.Config) { c.Links = append(c.Links, make([]api.Link, 60)...) }, 0, api.ErrFull},
		{"a link to itself", func(c *api.Config) { c.Links[0] = queued(1, 1, 0) }, 0, api.ErrEdge},
		{"a link without room", func(c *api.Config) { c.Links[2] = queued(0, 1, 0) }, 2, api.ErrArg},
		{"a link to nobody", func(c *api.Config) { c.Links[4] = sampled(0, 3) }, 4, api.ErrEdge},
		{"no name of the domain 0", func(c *api.Config) { c.Tenants[0].Name = "a b" }, 0, api.ErrCalled},
		{"no goroutines of the domain 0", func(c *api.Config) { c.Tenants[0].Gs = 0 }, 0, api.ErrSizes},
		{"no cells of the domain 0", func(c *api.Config) { c.Tenants[0].Cells = -1 }, 0, api.ErrSizes},
		{"no program of the domain 0", func(c *api.Config) { c.Tenants[0].Program = none }, 0, api.ErrCode},
		{"a name of the domain 1 that is there", func(c *api.Config) { c.Tenants[1].Name = c.Tenants[0].Name }, 1, api.ErrCalled},
		{"too many goroutines of the domain 1", func(c *api.Config) { c.Tenants[1].Gs = 4097 }, 1, api.ErrSizes},
		{"no program of the domain 1", func(c *api.Config) { c.Tenants[1].Program = none }, 1, api.ErrCode},
		{"no name of the domain 2", func(c *api.Config) { c.Tenants[2].Name = "" }, 2, api.ErrCalled},
		{"too many cells of the domain 2", func(c *api.Config) { c.Tenants[2].Cells = 257 }, 2, api.ErrSizes},
		{"no program of the domain 2", func(c *api.Config) { c.Tenants[2].Program = none }, 2, api.ErrCode},
	}
}

// Z1: each kind of fault alone, and of any two the one that comes first; the later one is made first, where the other one leaves no place for it.
func TestCheckTellsTheFirst(t *testing.T) {
	l := faults()
	for n, x := range l {
		c := rich()
		x.change(&c)
		checks(t, x.what, c, x.place, x.e)
		for _, y := range l[n+1:] {
			c := rich()
			y.change(&c)
			x.change(&c)
			checks(t, x.what+", and "+y.what, c, x.place, x.e)
		}
	}
}

// Z1: of everything that is wrong at once the first, and, as one after another is mended, the next one.
func TestCheckAsFaultsAreMended(t *testing.T) {
	l := faults()
	for n, x := range l {
		c := rich()
		for m := len(l) - 1; m >= n; m-- {
			l[m].change(&c)
		}
		checks(t, x.what+", and all behind it", c, x.place, x.e)
	}
}

// R1: Check ends at what is far too great, and tells its first fault.
func TestCheckOfGreatThings(t *testing.T) {
	c := plain(1 << 15)
	checks(t, "many domains", c, 0, api.ErrTenants)
	c = plain(2)
	c.Links = make([]api.Link, 1<<20)
	checks(t, "many links", c, 0, api.ErrFull)
	c = plain(2)
	c.Table.Procs = append(c.Table.Procs, make([]api.Slot, 1<<20))
	checks(t, "many slots", c, 1, api.ErrFull)
	c = plain(2)
	c.Tenants[1].Program.Code = make([]uint32, 1<<20)
	checks(t, "much code", c, 1, api.ErrCode)
	if l := config.Edges(api.Config{Links: make([]api.Link, 1<<20)}); len(l) != 1<<20 {
		t.Errorf("Edges: %d", len(l))
	}
}
