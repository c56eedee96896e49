package listing

import (
	"strconv"

	"rota/api"
	"rota/word"
)

// check is why a program has no text, but its length.
func check(p api.Program) api.Errno {
	if !parted(p) || !casesFit(p.Tables) {
		return api.ErrArg
	}
	unread := api.OK
	for _, f := range p.Funcs {
		for _, w := range p.Code[f.Begin:f.End] {
			i, e := word.Decode(w)
			if e == api.OK && !there(p, f, i) {
				return api.ErrArg
			}
			// It waits till all words are looked at: what is not there comes ahead of it, wherever it stands.
			if unread == api.OK {
				unread = e
			}
		}
	}
	return unread
}

// parted tells whether the functions part the code. Where there is no function they do not, even if there is no code: there is no first one that begins at the word 0.
func parted(p api.Program) bool {
	if len(p.Funcs) == 0 {
		return false
	}
	at := 0
	for _, f := range p.Funcs {
		if f.Begin != at || f.End <= at {
			return false
		}
		at = f.End
	}
	return at == len(p.Code)
}

// casesFit tells whether all fields that the cases use are registers.
func casesFit(tables []api.CaseTable) bool {
	for _, t := range tables {
		for _, c := range t.Cases {
			if _, e := word.Encode(caseInstr(c)); e != api.OK {
				return false
			}
		}
	}
	return true
}

// there tells whether what an instruction of a function names is there.
func there(p api.Program, f api.Func, i api.Instr) bool {
	switch named(i.Op) {
	case aLabel:
		return f.Begin <= i.Imm && i.Imm < f.End
	case aFunction:
		return i.Imm < len(p.Funcs)
	case aTable:
		return i.Imm < len(p.Tables)
	}
	return true
}

// caseInstr is the instruction that has a case's text.
func caseInstr(c api.Case) api.Instr {
	if c.Send {
		return api.Instr{Op: api.OpSend, A: c.Chan, B: c.Val}
	}
	return api.Instr{Op: api.OpRecv, A: c.Chan, B: c.Val, C: c.Ok}
}

// instruction is the text of one that may be.
func instruction(i api.Instr) string {
	text, _ := word.Name(i.Op)
	registers, numbers := form(i.Op)
	all := [3]int{i.A, i.B, i.C}
	for at := range registers {
		text += " r" + strconv.Itoa(all[at])
	}
	if numbers > 0 {
		text += " " + called(named(i.Op), i.Imm)
	}
	return text
}

// called is the name that a thing of a kind gets by its number; of no kind the number.
func called(kind, number int) string {
	digits := strconv.Itoa(number)
	switch kind {
	case aLabel:
		return "L" + digits
	case aFunction:
		return "f" + digits
	case aTable:
		return "t" + digits
	}
	return digits
}

// writer is a text of lines.
type writer struct {
	text []byte
}

// long tells whether the text has become too long.
func (w *writer) long() bool { return len(w.text) > api.MaxText }

// line writes one, unless the text is too long already: that of a great program would fill the memory in vain.
func (w *writer) line(text string) {
	if !w.long() {
		w.text = append(w.text, text...)
		w.text = append(w.text, '\n')
	}
}

func (w *writer) tables(p api.Program) {
	for n, t := range p.Tables {
		head := "table " + called(aTable, n)
		if t.Default {
			head += " default"
		}
		w.line(head)
		for _, c := range t.Cases {
			w.line(instruction(caseInstr(c)))
		}
	}
}

func (w *writer) functions(p api.Program) {
	marked := targets(p.Code)
	for n, f := range p.Funcs {
		w.line("func " + called(aFunction, n))
		for at := f.Begin; at < f.End; at++ {
			if marked[at] {
				w.line(called(aLabel, at) + ":")
			}
			i, _ := word.Decode(p.Code[at])
			w.line(instruction(i))
		}
	}
}

// targets tells of each word whether another one has it as its target. In a program that may be printed that is one of the same function.
func targets(code []uint32) []bool {
	out := make([]bool, len(code))
	for _, w := range code {
		if i, e := word.Decode(w); e == api.OK && named(i.Op) == aLabel {
			out[i.Imm] = true
		}
	}
	return out
}
