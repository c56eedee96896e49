package config_test

import (
	"math/big"
	"math/rand/v2"
	"regexp"
	"strings"
	"testing"

	"rota/api"
	"rota/config"
	"rota/listing"
	"rota/port"
	"rota/proper"
	"rota/table"
)

// The kinds of lines, by the chapter's words.
var (
	idleLine   = regexp.MustCompile(`(?s)^(| +|#.*)$`)
	headLines  = []*regexp.Regexp{headLine("frame"), headLine("procs"), headLine("quantum"), headLine("check"), headLine("clock")}
	slotLine   = bodyLine(`slot`, `N`, `N`, `N`, `N`, `N`)
	sampleLine = bodyLine(`port`, `N`, `N`, `sample`)
	queueLine  = bodyLine(`port`, `N`, `N`, `queue`, `N`)
	domainLine = bodyLine(`domain`, `([A-Za-z_][A-Za-z0-9_]{0,31})`, `N`, `N`)
)

func headLine(word string) *regexp.Regexp { return bodyLine(word, `N`) }

// bodyLine is a line of words, in which N is a number.
func bodyLine(words ...string) *regexp.Regexp {
	l := strings.ReplaceAll(strings.Join(words, ` +`), `N`, `(0|[1-9][0-9]*)`)
	return regexp.MustCompile(`^ *` + l + ` *$`)
}

// modelled is what Parse tells.
type modelled struct {
	c    api.Config
	e    api.Errno
	line int
}

// refusal is what Parse tells where a line is wrong.
func refusal(e api.Errno, line int) modelled { return modelled{e: e, line: line} }

// upTo tells whether a word of digits is at most so much.
func upTo(word, most string) bool {
	n, _ := new(big.Int).SetString(word, 10)
	m, _ := new(big.Int).SetString(most, 10)
	return n.Cmp(m) <= 0
}

// great and small are words of digits as numbers; false: too great.
func great(w string) (uint64, bool) {
	n, _ := new(big.Int).SetString(w, 10)
	return n.Uint64(), upTo(w, "18446744073709551615")
}
func small(w string) (int, bool) {
	n, _ := new(big.Int).SetString(w, 10)
	return int(n.Int64()), upTo(w, "2147483647")
}

// model is what Parse must tell of a text.
func model(s string) modelled {
	if len(s) > 1<<18 {
		return refusal(api.ErrFull, 0)
	}
	lines := strings.Split(s, "\n")
	if lines[len(lines)-1] == "" {
		lines = lines[:len(lines)-1]
	}
	var m modelled
	heads := 0
	for n := 0; n < len(lines); n++ {
		switch {
		case idleLine.MatchString(lines[n]):
		case heads < 5:
			if !m.head(heads, lines[n]) {
				return refusal(api.ErrHead, n+1)
			}
			heads++
		case domainLine.MatchString(lines[n]):
			behind, e, at := m.domain(lines, n)
			if e != api.OK {
				return refusal(e, at)
			}
			n = behind
		case !m.slot(lines[n]) && !m.port(lines[n]):
			return refusal(api.ErrLine, n+1)
		}
	}
	if heads < 5 {
		return refusal(api.ErrHead, len(lines)+1)
	}
	return m
}

// head reads a line as that of the head.
func (m *modelled) head(at int, line string) bool {
	w := headLines[at].FindStringSubmatch(line)
	if w == nil || !upTo(w[1], "18446744073709551615") || at == 1 && !upTo(w[1], "64") {
		return false
	}
	n, _ := great(w[1])
	if at == 1 {
		m.c.Table.Procs = make([][]api.Slot, n)
		return true
	}
	*[]*uint64{&m.c.Table.Frame, nil, &m.c.Quantum, &m.c.Check, &m.c.Clock}[at] = n
	return true
}

// slot reads a line as a slot.
func (m *modelled) slot(line string) bool {
	w := slotLine.FindStringSubmatch(line)
	if w == nil {
		return false
	}
	p, a := small(w[1])
	d, b := small(w[2])
	start, x := great(w[3])
	length, y := great(w[4])
	pad, z := great(w[5])
	if !a || !b || !x || !y || !z || p >= len(m.c.Table.Procs) {
		return false
	}
	m.c.Table.Procs[p] = append(m.c.Table.Procs[p], slot(d, start, length, pad))
	return true
}

// port reads a line as a port.
func (m *modelled) port(line string) bool {
	w, queue := sampleLine.FindStringSubmatch(line), false
	if w == nil {
		w, queue = queueLine.FindStringSubmatch(line), true
	}
	if w == nil {
		return false
	}
	from, a := small(w[1])
	to, b := small(w[2])
	room, c := 1, true
	if queue {
		room, c = small(w[3])
	}
	m.c.Links = append(m.c.Links, api.Link{From: from, To: to, Queue: queue, Cap: room})
	return a && b && c
}

// domain reads the domain whose line is the n-th, and tells which its end is.
func (m *modelled) domain(lines []string, n int) (end int, e api.Errno, at int) {
	w := domainLine.FindStringSubmatch(lines[n])
	gs, a := small(w[2])
	cells, b := small(w[3])
	if !a || !b {
		return 0, api.ErrLine, n + 1
	}
	for end = n + 1; end < len(lines) && lines[end] != "end"; end++ {
	}
	if end == len(lines) {
		return 0, api.ErrCode, n + 1
	}
	p, f, line := listing.Parse(strings.Join(lines[n+1:end], "\n"))
	if f != api.OK {
		return 0, api.ErrCode, n + 1 + line
	}
	m.c.Tenants = append(m.c.Tenants, tenant(w[1], gs, cells, p))
	return end, api.OK, 0
}

// meets holds Parse of a text against the model.
func meets(t *testing.T, s string) modelled {
	t.Helper()
	want := model(s)
	if want.e == api.OK {
		reads(t, s, want.c)
	} else {
		wrong(t, s, want.e, want.line)
	}
	return want
}

// sequences is all sequences of up to so many lines of a list, handed to a function.
func sequences(l []string, most int, each func(lines []string)) {
	var grow func(lines []string)
	grow = func(lines []string) {
		each(lines)
		if len(lines) == most {
			return
		}
		for _, x := range l {
			grow(append(lines, x))
		}
	}
	grow(nil)
}

// Z2: all texts of up to five lines of a head.
func TestAllShortHeads(t *testing.T) {
	l := []string{"frame 10", "procs 2", "quantum 5", "check 3", "clock 0", "", "# x"}
	sequences(l, 5, func(lines []string) { meets(t, text(lines...)) })
}

// Z2: all texts of a head and up to four lines behind it, with a newline at the end and without.
func TestAllShortBodies(t *testing.T) {
	l := []string{"slot 0 0 0 1 0", "slot 1 1 4 2 1", "slot 2 0 0 1 0", "port 0 1 sample", "port 1 0 queue 3", "domain a 4 0", "func main", "exit", "end", "", "# x", "exti"}
	sequences(l, 4, func(lines []string) {
		s := behind(lines...)
		meets(t, s)
		meets(t, strings.TrimSuffix(s, "\n"))
	})
}

// spoiled is a text with a change by chance: in a byte, a word, or a line.
func spoiled(r *rand.Rand, s string) string {
	lines := strings.Split(s, "\n")
	at := r.IntN(len(lines))
	words := strings.Split(lines[at], " ")
	w := r.IntN(len(words))
	odd := []string{"0", "00", "1", "2", "63", "64", "65", "2147483647", "2147483648", "18446744073709551615", "18446744073709551616", "-1", "x", "", "#", "sample", "queue", "end", "slot", "port", "domain", "a b", "exit", "\t"}
	switch r.IntN(7) {
	case 0:
		lines = append(lines[:at], lines[at+1:]...)
	case 1:
		lines = append(lines[:at+1], lines[at:]...)
	case 2:
		other := r.IntN(len(lines))
		lines[at], lines[other] = lines[other], lines[at]
	case 3:
		words[w] = odd[r.IntN(len(odd))]
		lines[at] = strings.Join(words, " ")
	case 4:
		lines[at] = odd[r.IntN(len(odd))]
	case 5:
		lines[at] = strings.Join(append(words[:w], words[min(w+1, len(words)):]...), " ")
	default:
		whole := []byte(s)
		if len(whole) > 0 {
			whole[r.IntN(len(whole))] = " \n0#;9axr:\t\xff"[r.IntN(12)]
		}
		return string(whole)
	}
	return strings.Join(lines, "\n")
}

// Z2: texts of configurations by chance, changed again and again.
func TestTextsByChance(t *testing.T) {
	r := rand.New(rand.NewPCG(18, 2))
	var told [200]int
	for range 150 {
		c := drawn(r)
		if len(c.Links) > 5 {
			c.Links = c.Links[:5]
		}
		whole := printed(t, c)
		meets(t, whole)
		for range 20 {
			s := whole
			for range 1 + r.IntN(3) {
				s = spoiled(r, s)
			}
			told[meets(t, s).e]++
		}
	}
	for _, e := range []api.Errno{api.OK, api.ErrHead, api.ErrLine, api.ErrCode} {
		if told[e] < 20 {
			t.Errorf("%d is told of %d texts alone", e, told[e])
		}
	}
}

// modelCheck is what Check must tell, reason by reason.
func modelCheck(c api.Config) (int, api.Errno) {
	n := len(c.Tenants)
	if n < 1 || n > 16 {
		return 0, api.ErrTenants
	}
	if c.Quantum < 1 || c.Quantum > 65536 {
		return 0, api.ErrQuantum
	}
	if c.Check < 1 || c.Check > 65536 {
		return 0, api.ErrCheck
	}
	if p, _, e := table.Check(c.Table, n); e != api.OK {
		return p, e
	}
	if len(c.Links) > 64 {
		return 0, api.ErrFull
	}
	for at, l := range c.Links {
		if l.From < 0 || l.From >= n || l.To < 0 || l.To >= n || l.From == l.To {
			return at, api.ErrEdge
		}
		if _, e := port.New(l.Queue, l.Cap); e != api.OK {
			return at, api.ErrArg
		}
	}
	name := regexp.MustCompile(`^[A-Za-z_][A-Za-z0-9_]{0,31}$`)
	there := map[string]int{}
	for d, x := range c.Tenants {
		if there[x.Name]++; there[x.Name] > 1 || !name.MatchString(x.Name) || strings.HasSuffix(x.Name, "\n") {
			return d, api.ErrCalled
		}
		if x.Gs < 1 || x.Gs > 4096 || x.Cells < 0 || x.Cells > 256 {
			return d, api.ErrSizes
		}
		if _, e := proper.Check(x.Program); e != api.OK {
			return d, api.ErrCode
		}
	}
	return 0, api.OK
}

// shaken is a configuration with a change by chance.
func shaken(r *rand.Rand, c api.Config) api.Config {
	c = clone(c)
	d := r.IntN(len(c.Tenants))
	odd := []int{-1, 0, 1, 2, 15, 16, 17, 64, 256, 257, 1024, 1025, 4096, 4097, 65536, 65537}
	n := odd[r.IntN(len(odd))]
	switch r.IntN(11) {
	case 0:
		c.Quantum = uint64(n)
	case 1:
		c.Check = uint64(n)
	case 2:
		c.Table.Frame = uint64(n)
	case 3:
		p := r.IntN(len(c.Table.Procs))
		c.Table.Procs[p] = append(c.Table.Procs[p], slot(n, uint64(r.IntN(9)), 1, 0))
	case 4:
		c.Links = append(c.Links, queued(n, d, 1))
	case 5:
		c.Links = append(c.Links, queued(0, 1, n))
	case 6:
		c.Tenants[d].Gs = n
	case 7:
		c.Tenants[d].Cells = n
	case 8:
		c.Tenants[d].Name = c.Tenants[r.IntN(len(c.Tenants))].Name + []string{"", "-", "q"}[r.IntN(3)]
	case 9:
		l := wrongPrograms()
		c.Tenants[d].Program = l[r.IntN(len(l))]
	default:
		c.Links = append(c.Links, sampled(d, (d+1)%len(c.Tenants)))
	}
	return c
}

// Z1, Z3: configurations by chance, changed again and again: what Check tells, and Print refuses.
func TestConfigsByChance(t *testing.T) {
	r := rand.New(rand.NewPCG(18, 3))
	fine := 0
	for range 120 {
		whole := drawn(r)
		for range 25 {
			c := whole
			for range 1 + r.IntN(3) {
				c = shaken(r, c)
			}
			place, e := modelCheck(c)
			checks(t, "by chance", c, place, e)
			if e != api.OK {
				unprinted(t, "by chance", c, e)
				continue
			}
			fine++
			reads(t, printed(t, c), c)
		}
	}
	if fine < 100 {
		t.Errorf("%d may be alone", fine)
	}
}

// write is the text of a configuration that may be, by the chapter's words.
func write(t *testing.T, c api.Config) string {
	t.Helper()
	l := []string{"frame " + big64(c.Table.Frame), "procs " + itoa(len(c.Table.Procs)), "quantum " + big64(c.Quantum), "check " + big64(c.Check), "clock " + big64(c.Clock)}
	for p, slots := range c.Table.Procs {
		for _, s := range slots {
			l = append(l, "slot "+itoa(p)+" "+itoa(s.Domain)+" "+big64(s.Window.Start)+" "+big64(s.Window.Length)+" "+big64(s.Pad))
		}
	}
	for _, x := range c.Links {
		how := "sample"
		if x.Queue {
			how = "queue " + itoa(x.Cap)
		}
		l = append(l, "port "+itoa(x.From)+" "+itoa(x.To)+" "+how)
	}
	for _, x := range c.Tenants {
		s, e := listing.Print(x.Program)
		if e != api.OK {
			t.Fatalf("layer 7: %d", e)
		}
		l = append(l, "domain "+x.Name+" "+itoa(x.Gs)+" "+itoa(x.Cells), strings.TrimSuffix(s, "\n"), "end")
	}
	return text(l...)
}

func big64(n uint64) string { return new(big.Int).SetUint64(n).String() }

// Z3: what Print tells, by the chapter's words.
func TestPrintByTheWords(t *testing.T) {
	for _, g := range configs() {
		want := write(t, g.c)
		if s, e := config.Print(g.c); s != want || e != api.OK {
			t.Errorf("%s: Print: %s, %d, not %s", g.what, brief(s), e, brief(want))
		}
	}
}
