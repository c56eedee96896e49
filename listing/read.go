package listing

import (
	"rota/api"
	"rota/word"
)

// name is one of its kind; a label's is one of the function of that number, too.
type name struct {
	kind int
	of   int
	text string
}

// asking is an instruction that was read at a line. Its name, if it has one, may be given further down, so that its word waits.
type asking struct {
	line int
	i    api.Instr
	name name
}

// reader takes a text's lines from above, till one is wrong.
type reader struct {
	asked   []asking
	funcs   []api.Func
	tables  []api.CaseTable
	names   map[name]int
	inFunc  bool // instructions and labels may stand
	inTable bool // cases may stand
}

// read takes a line, or tells what is wrong with it by itself.
func (r *reader) read(l line) api.Errno {
	switch l.kind {
	case funcLine:
		return r.readFunc(l.words[1:])
	case tableLine:
		return r.readTable(l.words[1:])
	case labelLine:
		return r.readLabel(l)
	case opLine:
		return r.readOp(l)
	}
	return api.ErrText
}

// give gives a name its number, unless it is given already.
func (r *reader) give(n name, number int) api.Errno {
	if _, there := r.names[n]; there {
		return api.ErrTwice
	}
	r.names[n] = number
	return api.OK
}

func (r *reader) readFunc(words []string) api.Errno {
	if len(words) != 1 || !isName(words[0]) {
		return api.ErrText
	}
	if e := r.give(name{kind: aFunction, text: words[0]}, len(r.funcs)); e != api.OK {
		return e
	}
	at := len(r.asked)
	r.funcs = append(r.funcs, api.Func{Begin: at, End: at})
	r.inFunc, r.inTable = true, false
	return api.OK
}

func (r *reader) readTable(words []string) api.Errno {
	defaulted := len(words) == 2 && words[1] == "default"
	if len(words) != 1 && !defaulted || !isName(words[0]) {
		return api.ErrText
	}
	if e := r.give(name{kind: aTable, text: words[0]}, len(r.tables)); e != api.OK {
		return e
	}
	r.tables = append(r.tables, api.CaseTable{Default: defaulted})
	r.inFunc, r.inTable = false, true
	return api.OK
}

func (r *reader) readLabel(l line) api.Errno {
	text := l.words[0][:len(l.words[0])-1]
	if len(l.words) != 1 || !isName(text) {
		return api.ErrText
	}
	if !r.inFunc || !l.leads {
		return api.ErrPlace
	}
	return r.give(r.inside(aLabel, text), len(r.asked))
}

// readOp takes a case or an instruction. Both have their registers in the same order, as many of them.
func (r *reader) readOp(l line) api.Errno {
	i, asked, e := fields(l.op, l.words[1:])
	if e != api.OK {
		return e
	}
	if r.inTable && (l.op == api.OpSend || l.op == api.OpRecv) {
		t := &r.tables[len(r.tables)-1]
		t.Cases = append(t.Cases, api.Case{Send: l.op == api.OpSend, Chan: i.A, Val: i.B, Ok: i.C})
		return api.OK
	}
	if !r.inFunc {
		return api.ErrPlace
	}
	a := asking{line: l.number, i: i}
	if asked != "" {
		a.name = r.inside(named(l.op), asked)
	}
	r.asked = append(r.asked, a)
	r.funcs[len(r.funcs)-1].End++
	return api.OK
}

// inside is a name as it is meant within the function that is being read.
func (r *reader) inside(kind int, text string) name {
	n := name{kind: kind, text: text}
	if kind == aLabel {
		n.of = len(r.funcs) - 1
	}
	return n
}

// program is what was read, when no line is wrong by itself; with an error the line.
func (r *reader) program() (api.Program, api.Errno, int) {
	var code []uint32
	for _, a := range r.asked {
		if a.name.kind != nothing {
			number, there := r.names[a.name]
			if !there {
				return api.Program{}, api.ErrName, a.line
			}
			a.i.Imm = number
		}
		// A text of MaxText bytes has too few lines for a number that Encode would refuse.
		w, _ := word.Encode(a.i)
		code = append(code, w)
	}
	return api.Program{Code: code, Funcs: r.funcs, Tables: r.tables}, api.OK, 0
}
