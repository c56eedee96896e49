package config

import (
	"math"
	"strings"

	"rota/api"
	"rota/listing"
)

// wrong is what a reader gives up with: why a text is no configuration, and which of its lines is wrong.
type wrong struct {
	e    api.Errno
	line int
}

// reader goes over a text from above. It gives up by a panic at the first line that is wrong: so nobody who reads a part of a line need ask whether the parts ahead of it were there.
type reader struct {
	rest string     // what is not read yet
	at   int        // the number of the line that was read last
	c    api.Config // what was read
}

// line is the next line, and whether there is one.
func (r *reader) line() (string, bool) {
	if r.rest == "" {
		return "", false
	}
	line, rest, _ := strings.Cut(r.rest, "\n")
	r.rest = rest
	r.at++
	return line, true
}

// words is the words of the next line that counts, and whether there is one.
func (r *reader) words() ([]string, bool) {
	for line, ok := r.line(); ok; line, ok = r.line() {
		if strings.HasPrefix(line, "#") {
			continue
		}
		if words := strings.FieldsFunc(line, blank); len(words) > 0 {
			return words, true
		}
	}
	return nil, false
}

func blank(r rune) bool { return r == ' ' }

// head reads the lines that must be there, in their order.
func (r *reader) head() {
	r.c.Table.Frame = r.headNumber("frame", math.MaxUint64)
	r.c.Table.Procs = make([][]api.Slot, r.headNumber("procs", api.MaxProcs))
	r.c.Quantum = r.headNumber("quantum", math.MaxUint64)
	r.c.Check = r.headNumber("check", math.MaxUint64)
	r.c.Clock = r.headNumber("clock", math.MaxUint64)
}

// headNumber is the number of the head's next line, which must begin with a word.
func (r *reader) headNumber(word string, most uint64) uint64 {
	words, ok := r.words()
	if !ok {
		panic(wrong{api.ErrHead, r.at + 1})
	}
	if len(words) == 2 && words[0] == word {
		if n, ok := number(words[1], most); ok {
			return n
		}
	}
	panic(wrong{api.ErrHead, r.at})
}

// body reads the lines behind the head.
func (r *reader) body() {
	for words, ok := r.words(); ok; words, ok = r.words() {
		switch told := words[1:]; words[0] {
		case "slot":
			r.slot(told)
		case "port":
			r.port(told)
		case "domain":
			r.domain(told)
		default:
			r.strange()
		}
	}
}

// strange gives up at a line behind the head that is of no kind.
func (r *reader) strange() { panic(wrong{api.ErrLine, r.at}) }

// must gives up there unless something holds.
func (r *reader) must(holds bool) {
	if !holds {
		r.strange()
	}
}

// number is the number that a word must be.
func (r *reader) number(w string) uint64 {
	n, ok := number(w, math.MaxUint64)
	r.must(ok)
	return n
}

// small is the number that a word must be where great ones may not be.
func (r *reader) small(w string) int {
	n, ok := number(w, maxSmall)
	r.must(ok)
	return int(n)
}

func (r *reader) slot(words []string) {
	r.must(len(words) == 5)
	procs := r.c.Table.Procs
	p := r.small(words[0])
	r.must(p < len(procs))
	procs[p] = append(procs[p], api.Slot{
		Domain: r.small(words[1]),
		Window: api.Window{Start: r.number(words[2]), Length: r.number(words[3])},
		Pad:    r.number(words[4]),
	})
}

func (r *reader) port(words []string) {
	r.must(len(words) >= 3)
	l := api.Link{From: r.small(words[0]), To: r.small(words[1]), Cap: 1}
	switch words[2] {
	case "sample":
		r.must(len(words) == 3)
	case "queue":
		r.must(len(words) == 4)
		l.Queue, l.Cap = true, r.small(words[3])
	default:
		r.strange()
	}
	r.c.Links = append(r.c.Links, l)
}

func (r *reader) domain(words []string) {
	r.must(len(words) == 3 && isName(words[0]))
	t := api.Tenant{Name: strings.Clone(words[0]), Gs: r.small(words[1]), Cells: r.small(words[2])}
	t.Program = r.program()
	r.c.Tenants = append(r.c.Tenants, t)
}

// program reads a program's text behind a domain's line, and the end behind it.
func (r *reader) program() api.Program {
	domain := r.at
	var text strings.Builder
	for {
		line, ok := r.line()
		if !ok {
			panic(wrong{api.ErrCode, domain})
		}
		if line == "end" {
			break
		}
		text.WriteString(line)
		text.WriteByte('\n')
	}
	p, e, at := listing.Parse(text.String())
	if e != api.OK {
		panic(wrong{api.ErrCode, domain + at})
	}
	return p
}
