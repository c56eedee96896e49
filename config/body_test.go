package config_test

import (
	"math"
	"slices"
	"strconv"
	"strings"
	"testing"

	"rota/api"
)

// Z2: slots, each behind the slots of its P in lines above, in any order of the Ps.
func TestSlots(t *testing.T) {
	c := parsed(t, behind("slot 1 7 8 9 10", "slot 0 1 2 3 4", "slot 1 0 0 0 0", "slot 0 5 1 1 1", "slot 1 3 2 1 0"))
	want := [][]api.Slot{{slot(1, 2, 3, 4), slot(5, 1, 1, 1)}, {slot(7, 8, 9, 10), slot(0, 0, 0, 0), slot(3, 2, 1, 0)}}
	for p := range want {
		if !slices.Equal(c.Table.Procs[p], want[p]) {
			t.Errorf("P %d: %+v", p, c.Table.Procs[p])
		}
	}
	reads(t, behind(), api.Config{Table: api.Table{Frame: 10, Procs: make([][]api.Slot, 2)}, Quantum: 100, Check: 61})
}

// Z2: each number of a slot is read to its own field.
func TestSlotNumbers(t *testing.T) {
	for at := 1; at < 6; at++ {
		for _, x := range numbers() {
			l := []string{"slot", "1", "2", "3", "4", "5"}
			l[at] = x.word
			s := behind("slot 0 1 1 1 1", strings.Join(l, " "))
			if at == 1 && x.n > 1 || at == 2 && x.n > math.MaxInt32 {
				wrong(t, s, api.ErrLine, 7)
				continue
			}
			want, p := slot(2, 3, 4, 5), 1
			switch at {
			case 1:
				p = int(x.n)
			case 2:
				want.Domain = int(x.n)
			case 3:
				want.Window.Start = x.n
			case 4:
				want.Window.Length = x.n
			case 5:
				want.Pad = x.n
			}
			got := parsed(t, s).Table.Procs[p]
			if len(got) != 2-p || got[len(got)-1] != want {
				t.Errorf("%s: %+v, not %+v", brief(s), got, want)
			}
		}
	}
}

// Z2: a slot is of a P of the machine: of the last one, and of none behind it.
func TestSlotProcs(t *testing.T) {
	for n := range 65 {
		for _, p := range []int{0, 1, n - 1, n, n + 1, 63, 64, 65} {
			s := text(append(head(n), "slot "+strconv.Itoa(p)+" 0 0 1 0")...)
			if p < 0 || p >= n {
				wrong(t, s, api.ErrLine, 6)
			} else if c := parsed(t, s); len(c.Table.Procs[p]) != 1 {
				t.Errorf("%s: %+v", brief(s), c.Table)
			}
		}
	}
}

// Z2: ports are links, in the order of their lines; a sampled one has the capacity 1.
func TestPorts(t *testing.T) {
	c := parsed(t, behind("port 3 4 queue 5", "port 0 1 sample", "port 0 1 queue 1", "port 1 1 sample", "port 0 1 queue 0"))
	want := []api.Link{queued(3, 4, 5), sampled(0, 1), queued(0, 1, 1), sampled(1, 1), queued(0, 1, 0)}
	if !slices.Equal(c.Links, want) {
		t.Errorf("%+v", c.Links)
	}
}

// Z2: each number of a port is read to its own field.
func TestPortNumbers(t *testing.T) {
	for at := 1; at < 5; at++ {
		for _, x := range numbers() {
			if at == 3 {
				continue
			}
			l := []string{"port", "1", "2", "queue", "3"}
			l[at] = x.word
			s := behind("", strings.Join(l, " "))
			if x.n > math.MaxInt32 {
				wrong(t, s, api.ErrLine, 7)
				continue
			}
			want := queued(1, 2, 3)
			switch at {
			case 1:
				want.From = int(x.n)
			case 2:
				want.To = int(x.n)
			case 4:
				want.Cap = int(x.n)
			}
			if got := parsed(t, s).Links; len(got) != 1 || got[0] != want {
				t.Errorf("%s: %+v, not %+v", brief(s), got, want)
			}
			if at == 4 {
				continue
			}
			l[3] = "sample"
			want.Queue, want.Cap = false, 1
			if got := parsed(t, behind(strings.Join(l[:4], " "))).Links; len(got) != 1 || got[0] != want {
				t.Errorf("%s: %+v, not %+v", l, got, want)
			}
		}
	}
}

// Z2: domains, in the order of their lines.
func TestDomains(t *testing.T) {
	c := parsed(t, behind(slices.Concat(named("b"), named("a"), named("b"))...))
	if len(c.Tenants) != 3 || c.Tenants[0].Name != "b" || c.Tenants[1].Name != "a" || c.Tenants[2].Name != "b" {
		t.Errorf("%+v", c.Tenants)
	}
	checks(t, "a name that is there twice is Check's matter", parsed(t, behind(slices.Concat(named("b"), named("a"), named("b"))...)), 2, api.ErrCalled)
}

// Z2: each number of a domain is read to its own field.
func TestDomainNumbers(t *testing.T) {
	for at := 2; at < 4; at++ {
		for _, x := range numbers() {
			l := []string{"domain", "a", "1", "2"}
			l[at] = x.word
			s := behind(strings.Join(l, " "), "func main", "exit", "end")
			if x.n > math.MaxInt32 {
				wrong(t, s, api.ErrLine, 6)
				continue
			}
			want := tenant("a", 1, 2, program("func main", "exit"))
			if at == 2 {
				want.Gs = int(x.n)
			} else {
				want.Cells = int(x.n)
			}
			got := parsed(t, s)
			if !same(api.Config{Tenants: got.Tenants}, api.Config{Tenants: []api.Tenant{want}}) {
				t.Errorf("%s: %+v, not %+v", brief(s), got.Tenants, want)
			}
		}
	}
}

// Z2: a domain's name is one as in layer 7.
func TestDomainNames(t *testing.T) {
	long := strings.Repeat("abcdefgh", 4)
	for _, w := range []string{"a", "_", "Z", "a9", "end", "domain", "slot", "r1", long} {
		c := parsed(t, behind(named(w)...))
		if len(c.Tenants) != 1 || c.Tenants[0].Name != w {
			t.Errorf("%s: %+v", w, c.Tenants)
		}
	}
	for _, w := range []string{"9", "0a", "-", "a-", "#", "#a", "a#", "a;", ";", "a:", "é", "a\t", "\ta", "a\r", "\xff", "a\x00", long + "a"} {
		wrong(t, behind(named(w)...), api.ErrLine, 6)
	}
}

// Z2: what is no number makes a line wrong, in each place of a number.
func TestBodyWithoutNumbers(t *testing.T) {
	for _, whole := range []string{"slot 0 0 0 1 0", "port 0 1 sample", "port 0 1 queue 1", "domain a 1 0"} {
		words := strings.Fields(whole)
		for at, was := range words {
			if was[0] > '9' {
				continue
			}
			for _, w := range noNumbers() {
				l := slices.Clone(words)
				l[at] = w
				wrong(t, behind("", strings.Join(l, " "), "func main", "exit", "end"), api.ErrLine, 7)
			}
		}
	}
}

// Z2: a line behind the head has as many words as its kind, no less and no more.
func TestBodyWords(t *testing.T) {
	for _, whole := range []string{"slot 0 0 0 1 0", "port 0 1 sample", "port 0 1 queue 1", "domain a 1 0"} {
		words := strings.Fields(whole)
		for n := 1; n < len(words); n++ {
			wrong(t, behind(strings.Join(words[:n], " "), "func main", "exit", "end"), api.ErrLine, 6)
		}
		for _, more := range []string{"0", "1", "x", "#", "# note", ";", "sample", "end"} {
			wrong(t, behind(whole+" "+more, "func main", "exit", "end"), api.ErrLine, 6)
		}
	}
}

// Z2: a line behind the head that is of no kind.
func TestBodyStrange(t *testing.T) {
	for _, w := range []string{
		"x", "slots 0 0 0 1 0", "Slot 0 0 0 1 0", "SLOT 0 0 0 1 0", "slo 0 0 0 1 0", "slot0 0 0 1 0", "slot,0,0,0,1,0", "slot\t0 0 0 1 0", "0 slot 0 0 1 0",
		"ports 0 1 sample", "port 0 1 sampled", "port 0 1 queues 1", "port 0 1 Sample", "port 0 1 1", "port 0 1 queue", "port 0 1 sample 1", "port sample 0 1", "port 0 1 Queue 1", "port 0 sample 1",
		"domains a 1 0", "Domain a 1 0", "domain 1 a 0", "domain 1 0 a", "end", "func main", "exit", "table t", "; note", "-", "\t", " # note", "\x00", "steal 0", "input 0",
		"frame 10", "procs 2", "quantum 100", "check 61", "clock 0",
	} {
		wrong(t, behind(w), api.ErrLine, 6)
		wrong(t, behind("port 0 1 sample", "", "# note", w), api.ErrLine, 9)
		wrong(t, behind(append(named("a"), w)...), api.ErrLine, 10)
	}
}

// Z2: words of lines behind the head are parted by any number of blanks, and by nothing else.
func TestBodyBlanks(t *testing.T) {
	for _, whole := range []string{"slot 0 0 0 1 0", "port 0 1 sample", "port 0 1 queue 1", "domain a 1 0"} {
		rest := []string{}
		if strings.HasPrefix(whole, "domain") {
			rest = []string{"func main", "exit", "end"}
		}
		want := parsed(t, behind(append([]string{whole}, rest...)...))
		for _, blanks := range []string{" ", "   ", strings.Repeat(" ", 300)} {
			reads(t, behind(append([]string{blanks + strings.ReplaceAll(whole, " ", blanks) + blanks}, rest...)...), want)
		}
		for _, other := range []string{"\t", "\r", "\v", "\u00a0", "\u2003", "\xa0", "\x00"} {
			wrong(t, behind(append([]string{strings.Replace(whole, " ", other, 1)}, rest...)...), api.ErrLine, 6)
			wrong(t, behind(append([]string{whole + other}, rest...)...), api.ErrLine, 6)
			wrong(t, behind(append([]string{other + whole}, rest...)...), api.ErrLine, 6)
		}
	}
}

// Z2: the kinds behind the head stand in any order, with lines between them that count for nothing.
func TestBodyOrder(t *testing.T) {
	parts := [][]string{{"slot 1 0 0 4 1"}, {"port 1 0 queue 3"}, named("a"), {"", "  ", "# note", "#"}}
	want := parsed(t, behind(slices.Concat(parts...)...))
	for a := range 4 {
		for b := range 4 {
			l := slices.Clone(parts)
			l[a], l[b] = l[b], l[a]
			reads(t, behind(slices.Concat(l...)...), want)
			slices.Reverse(l)
			reads(t, behind(slices.Concat(l...)...), want)
		}
	}
}

// Z2: the last line needs no newline, of each kind.
func TestBodyWithoutLastNewline(t *testing.T) {
	for _, l := range [][]string{{"slot 0 0 0 1 0"}, {"port 0 1 sample"}, {"port 0 1 queue 12"}, named("a"), {"# note"}, {"  "}} {
		s := behind(l...)
		reads(t, strings.TrimSuffix(s, "\n"), parsed(t, s))
		reads(t, s+"\n \n", parsed(t, s))
	}
	wrong(t, strings.TrimSuffix(behind("x"), "\n"), api.ErrLine, 6)
}

// Z2, R2: the first wrong line is told, whatever is wrong behind it.
func TestBodyTellsTheFirst(t *testing.T) {
	for at := range 8 {
		l := slices.Repeat([]string{"port 0 1 sample"}, 8)
		for _, w := range []string{"port", "slot 2 0 0 1 0", "domain 1 1 0", "y"} {
			l[at] = w
			wrong(t, behind(l...), api.ErrLine, 6+at)
			for behindIt := at + 1; behindIt < 8; behindIt++ {
				m := slices.Clone(l)
				m[behindIt] = "domain a 1 0"
				wrong(t, behind(m...), api.ErrLine, 6+at)
				m[behindIt] = "x"
				wrong(t, behind(m...), api.ErrLine, 6+at)
			}
		}
	}
}

// Z2: whether what a text tells may be is Check's matter.
func TestParseTakesWhatCheckRefuses(t *testing.T) {
	for _, x := range []struct {
		s     string
		place int
		e     api.Errno
	}{
		{text(head(1)...), 0, api.ErrTenants},
		{text(append([]string{"frame 0", "procs 0", "quantum 0", "check 0", "clock 0"}, named("a")...)...), 0, api.ErrQuantum},
		{text(append([]string{"frame 0", "procs 0", "quantum 1", "check 65537", "clock 0"}, named("a")...)...), 0, api.ErrCheck},
		{text(append([]string{"frame 65537", "procs 1", "quantum 1", "check 1", "clock 0"}, named("a")...)...), 0, api.ErrFrame},
		{behind(append(named("a"), "slot 1 0 5 6 0")...), 1, api.ErrWindow},
		{behind(append(named("a"), "slot 1 0 5 5 5")...), 1, api.ErrWindow},
		{behind(append(named("a"), "slot 1 1 0 1 0")...), 1, api.ErrOwner},
		{behind(append(named("a"), "slot 1 0 5 1 0", "slot 1 0 4 1 0")...), 1, api.ErrMeet},
		{behind(append(named("a"), "port 0 1 sample")...), 0, api.ErrEdge},
		{behind(slices.Concat(named("a"), named("b"), []string{"port 0 1 queue 0"})...), 0, api.ErrArg},
		{behind(slices.Concat(named("a"), named("b"), []string{"port 0 1 queue 1025"})...), 0, api.ErrArg},
		{behind(slices.Concat(named("a"), named("b"), slices.Repeat([]string{"port 0 1 sample"}, 65))...), 0, api.ErrFull},
		{behind(slices.Concat(named("a"), named("a"))...), 1, api.ErrCalled},
		{behind("domain a 0 0", "func main", "exit", "end"), 0, api.ErrSizes},
		{behind("domain a 4097 0", "func main", "exit", "end"), 0, api.ErrSizes},
		{behind("domain a 1 257", "func main", "exit", "end"), 0, api.ErrSizes},
		{behind("domain a 1 0", "end"), 0, api.ErrCode},
		{behind("domain a 1 0", "func main", "set r1 1", "end"), 0, api.ErrCode},
	} {
		checks(t, x.s, parsed(t, x.s), x.place, x.e)
	}
	c := plain(17)
	var l []string
	for _, x := range c.Tenants {
		l = append(l, named(x.Name)...)
	}
	if many := parsed(t, behind(l...)); len(many.Tenants) != 17 {
		t.Errorf("17 domains: %d were read", len(many.Tenants))
	}
}
