package listing_test

import (
	"slices"
	"strings"
	"testing"

	"rota/api"
	"rota/listing"
	"rota/word"
)

// text is lines with a newline behind each.
func text(lines ...string) string {
	var out strings.Builder
	for _, l := range lines {
		out.WriteString(l + "\n")
	}
	return out.String()
}

// same tells whether two programs are the same; nil and the empty list are.
func same(p, q api.Program) bool {
	return slices.Equal(p.Code, q.Code) && slices.Equal(p.Funcs, q.Funcs) &&
		slices.EqualFunc(p.Tables, q.Tables, func(a, b api.CaseTable) bool {
			return a.Default == b.Default && slices.Equal(a.Cases, b.Cases)
		})
}

// empty tells whether a program is the zero one.
func empty(p api.Program) bool {
	return len(p.Code) == 0 && len(p.Funcs) == 0 && len(p.Tables) == 0
}

// reads asks for a text's program.
func reads(t *testing.T, text string, want api.Program) {
	t.Helper()
	p, e, n := listing.Parse(text)
	if !same(p, want) || e != api.OK || n != 0 {
		t.Errorf("Parse(%s): %+v, %d, %d, not %+v", brief(text), p, e, n, want)
	}
}

// wrong asks for what is refused of a text; nothing is told beside it.
func wrong(t *testing.T, text string, want api.Errno, line int) {
	t.Helper()
	p, e, n := listing.Parse(text)
	if !empty(p) || e != want || n != line {
		t.Errorf("Parse(%s): %+v, %d, %d, not %d, %d", brief(text), p, e, n, want, line)
	}
}

// prints asks for a program's text, and for the program of that text.
func prints(t *testing.T, p api.Program, want string) {
	t.Helper()
	if s, e := listing.Print(p); s != want || e != api.OK {
		t.Errorf("Print(%+v): %s, %d, not %s", p, brief(s), e, brief(want))
	}
	reads(t, want, used(p))
}

// unprinted asks for what is refused of a program.
func unprinted(t *testing.T, p api.Program, want api.Errno) {
	t.Helper()
	if s, e := listing.Print(p); s != "" || e != want {
		t.Errorf("Print(%+v): %s, %d, not %d", p, brief(s), e, want)
	}
}

// used is a program without the fields of cases that are not used.
func used(p api.Program) api.Program {
	p.Tables = slices.Clone(p.Tables)
	for n := range p.Tables {
		cases := slices.Clone(p.Tables[n].Cases)
		for at := range cases {
			if cases[at].Send {
				cases[at].Ok = 0
			}
		}
		p.Tables[n].Cases = cases
	}
	return p
}

// brief is a text as a test tells it.
func brief(s string) string {
	if len(s) > 400 {
		s = s[:200] + " .. " + s[len(s)-200:]
	}
	return "«" + strings.ReplaceAll(s, "\n", "⏎") + "»"
}

// code is the words of instructions.
func code(t *testing.T, is ...api.Instr) []uint32 {
	t.Helper()
	var out []uint32
	for _, i := range is {
		w, e := word.Encode(i)
		if e != api.OK {
			t.Fatalf("Encode(%+v): %d", i, e)
		}
		out = append(out, w)
	}
	return out
}

// one is a program of one function.
func one(t *testing.T, is ...api.Instr) api.Program {
	t.Helper()
	return api.Program{Code: code(t, is...), Funcs: []api.Func{{Begin: 0, End: len(is)}}}
}

// shaped is what an operation's shape has: how many registers, and the range of its number, if it has one.
func shaped(op int) (registers int, numbered bool, least, most int) {
	shape, _ := word.Shape(op)
	switch shape {
	case api.ShapeA:
		return 1, false, 0, 0
	case api.ShapeAB:
		return 2, false, 0, 0
	case api.ShapeABC:
		return 3, false, 0, 0
	case api.ShapeI:
		return 0, true, 0, 65535
	case api.ShapeAI:
		return 1, true, 0, 65535
	case api.ShapeAS:
		return 1, true, -32768, 32767
	}
	return 0, false, 0, 0
}

// letter is how the name begins that Line tells in the place of an operation's number; none, if it tells the number.
func letter(op int) string {
	switch op {
	case api.OpJump, api.OpZero, api.OpSome:
		return "L"
	case api.OpCall, api.OpSpawn:
		return "f"
	case api.OpSelect:
		return "t"
	}
	return ""
}

// parsed is the program of a text that may be.
func parsed(t *testing.T, text string) api.Program {
	t.Helper()
	p, e, n := listing.Parse(text)
	if e != api.OK || n != 0 {
		t.Errorf("Parse(%s): %d, %d", brief(text), e, n)
	}
	return p
}
