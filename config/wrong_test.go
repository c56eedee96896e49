package config_test

import (
	"math"
	"strings"
	"testing"

	"rota/api"
	"rota/config"
)

// R1: Check, Print and Edges end, and none panics, whatever numbers there are; Print refuses just what Check refuses.
func TestAnyNumbers(t *testing.T) {
	l := append(odd(), 0, 1, 2, 3, 64, 65, 4096, 65536, 65537)
	for _, n := range l {
		for _, m := range l {
			for _, change := range []func(c *api.Config){
				func(c *api.Config) { c.Quantum, c.Check = uint64(n), uint64(m) },
				func(c *api.Config) { c.Clock, c.Table.Frame = uint64(n), uint64(m) },
				func(c *api.Config) { c.Table.Procs[1] = []api.Slot{slot(n, uint64(m), 1, 0)} },
				func(c *api.Config) { c.Table.Procs[1] = []api.Slot{slot(0, 0, uint64(n), uint64(m))} },
				func(c *api.Config) { c.Links[1] = queued(n, m, 1) },
				func(c *api.Config) { c.Links[1] = api.Link{From: 0, To: n, Cap: m} },
				func(c *api.Config) { c.Tenants[1].Gs, c.Tenants[1].Cells = n, m },
				func(c *api.Config) { c.Tenants[1].Program.Funcs[0] = api.Func{Begin: n, End: m} },
				func(c *api.Config) { c.Tenants[1].Program.Code[0], c.Tenants[1].Program.Code[1] = uint32(n), uint32(m) },
				func(c *api.Config) { c.Tenants[1].Program.Tables[0].Cases[1] = api.Case{Chan: n, Val: m, Ok: n} },
			} {
				c := clone(rich())
				change(&c)
				place, e := modelCheck(c)
				checks(t, "any numbers", c, place, e)
				edges(c)
				s, f := config.Print(c)
				if f != e || (f == api.OK) != (s != "") {
					t.Errorf("Print(%s): %s, %d, Check: %d", brief(told(c)), brief(s), f, e)
				}
			}
		}
	}
}

// R1, R2: Parse ends, and does not panic, at any bytes; beside an error there is nothing.
func TestAnyBytes(t *testing.T) {
	for b := range 256 {
		x := string([]byte{byte(b)})
		for _, s := range []string{x, x + x, x + "\n" + x, behind(x), behind(x + x), behind("slot" + x), "frame" + x + "10", "frame 10" + x, within(x), within("func main", x, "exit"), within("func main", "exit"+x), behind("domain" + x), behind("domain a"+x+" 4 0", "end"), behind("domain a 4 0"+x, "end"), behind("domain a 4 0", "end"+x), behind("domain a 4 0", x+"end"), behind("port 0 1 sample" + x)} {
			meets(t, s)
		}
	}
}

// R1: Parse ends at texts with as much of one thing as there can be.
func TestGreatTexts(t *testing.T) {
	for _, x := range []struct{ first, again string }{
		{"", "\n"}, {"", " "}, {"", "#\n"}, {"", "x "}, {"", "frame 10\n"}, {"frame ", "1"}, {"frame", " "}, {"", "\xff"},
		{behind(), "slot 0 0 0 1 0\n"}, {behind(), "port 0 1 sample\n"}, {behind(), "domain a 1 0\nend\n"}, {behind(), "domain a 1 0\n"},
		{behind("domain a 1 0"), "\n"}, {behind("domain a 1 0"), "x:\n"}, {behind("domain a 1 0", "func f"), "exit\n"}, {behind("domain a 1 0"), "func f\nend\ndomain a 1 0\n"},
		{behind() + "domain ", "a"}, {behind() + "slot ", "0 "}, {behind("domain a 1 0"), "end "},
	} {
		for _, last := range []string{"", "\nend\n", "\nx\n"} {
			n := (api.MaxText - len(x.first) - len(last)) / len(x.again)
			meets(t, x.first+strings.Repeat(x.again, n)+last)
		}
	}
}

// Z2, R2: each refusal of Parse alone, its line, and nothing beside it.
func TestEachRefusal(t *testing.T) {
	whole := printed(t, rich())
	lines := strings.SplitAfter(whole, "\n")
	for n, l := range lines[:len(lines)-1] {
		s := strings.Join(lines[:n], "") + "!" + l + strings.Join(lines[n+1:], "")
		want := api.ErrLine
		at := n + 1
		switch {
		case n < 5:
			want = api.ErrHead
		case n >= 16 && !strings.HasPrefix(l, "domain"):
			want = api.ErrCode
			if strings.HasSuffix(lines[n-1], ":\n") {
				at-- // No instruction comes behind the label any more.
			}
		}
		if l == "end\n" {
			// The next domain's line, and all behind it, is the program's; or nothing ends it.
			want = api.ErrCode
			if n == len(lines)-2 {
				for at--; !strings.HasPrefix(lines[at-1], "domain"); at-- {
				}
			}
		}
		wrong(t, s, want, at)
	}
	wrong(t, whole+strings.Repeat("#", api.MaxText), api.ErrFull, 0)
}

// R1: Edges tells of any links.
func TestEdgesOfAnything(t *testing.T) {
	for _, n := range []int{math.MinInt, -1, 0, math.MaxInt} {
		l := edges(api.Config{Links: []api.Link{{From: n, To: n}, {To: n}}})
		if len(l) != 2 || l[0] != (api.Edge{From: n, To: n}) || l[1] != (api.Edge{To: n}) {
			t.Errorf("Edges: %v", l)
		}
	}
}
