package config

import (
	"strconv"
	"strings"

	"rota/api"
	"rota/listing"
)

// writer writes a text from above.
type writer struct {
	text strings.Builder
}

// line writes a line of words.
func (w *writer) line(words ...string) {
	w.text.WriteString(strings.Join(words, " "))
	w.text.WriteByte('\n')
}

// great and small are numbers as words.
func great(n uint64) string { return strconv.FormatUint(n, 10) }
func small(n int) string    { return strconv.Itoa(n) }

func (w *writer) head(c api.Config) {
	w.line("frame", great(c.Table.Frame))
	w.line("procs", small(len(c.Table.Procs)))
	w.line("quantum", great(c.Quantum))
	w.line("check", great(c.Check))
	w.line("clock", great(c.Clock))
}

func (w *writer) slots(procs [][]api.Slot) {
	for p, l := range procs {
		for _, s := range l {
			w.line("slot", small(p), small(s.Domain), great(s.Window.Start), great(s.Window.Length), great(s.Pad))
		}
	}
}

func (w *writer) ports(l []api.Link) {
	for _, x := range l {
		if x.Queue {
			w.line("port", small(x.From), small(x.To), "queue", small(x.Cap))
		} else {
			w.line("port", small(x.From), small(x.To), "sample")
		}
	}
}

// domains writes them with their programs, up to one that layer 7 refuses.
func (w *writer) domains(l []api.Tenant) api.Errno {
	for _, t := range l {
		program, e := listing.Print(t.Program)
		if e != api.OK {
			return e
		}
		w.line("domain", t.Name, small(t.Gs), small(t.Cells))
		w.text.WriteString(program)
		w.line("end")
	}
	return api.OK
}
