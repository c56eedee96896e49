package listing_test

import (
	"math/big"
	"math/rand/v2"
	"regexp"
	"strconv"
	"strings"
	"testing"

	"rota/api"
	"rota/listing"
	"rota/word"
)

var (
	aName     = regexp.MustCompile(`^[A-Za-z_][A-Za-z0-9_]{0,31}$`)
	aRegister = regexp.MustCompile(`^r(0|[1-9][0-9]*)$`)
	aNumber   = regexp.MustCompile(`^-?[0-9]{1,9}$`)
)

// model is a text by the document's words: each question is answered by looking at all lines anew.
type model struct {
	lines []modelLine
}

type modelLine struct {
	number int
	words  []string
}

func (l modelLine) first() string { return l.words[0] }

func newModel(s string) model {
	var m model
	for at, l := range strings.Split(s, "\n") {
		if remark := strings.IndexByte(l, ';'); remark >= 0 {
			l = l[:remark]
		}
		var words []string
		for _, w := range regexp.MustCompile(`[ \t\r]`).Split(l, -1) {
			if w != "" {
				words = append(words, w)
			}
		}
		if len(words) > 0 {
			m.lines = append(m.lines, modelLine{at + 1, words})
		}
	}
	return m
}

func isOp(w string) bool {
	_, e := word.Find(w)
	return e == api.OK
}

// headAbove is the nearest line at or above one that begins a function or a table; -1, if there is none.
func (m model) headAbove(at int) int {
	for ; at >= 0; at-- {
		if w := m.lines[at].first(); w == "func" || w == "table" {
			return at
		}
	}
	return -1
}

// function is the number of the function to which a line belongs.
func (m model) function(at int) int {
	count := -1
	for _, l := range m.lines[:at+1] {
		if l.first() == "func" {
			count++
		}
	}
	return count
}

// inFunction tells whether instructions and labels may stand at a line.
func (m model) inFunction(at int) bool {
	head := m.headAbove(at)
	return head >= 0 && m.lines[head].first() == "func"
}

// isCase tells whether a line is a case.
func (m model) isCase(at int) bool {
	for ; at >= 0; at-- {
		switch m.lines[at].first() {
		case "send", "recv":
		case "table":
			return true
		default:
			return false
		}
		if at == 0 {
			return false
		}
	}
	return false
}

func (m model) isLabel(at int) bool {
	w := m.lines[at].first()
	return strings.HasSuffix(w, ":") && len(m.lines[at].words) == 1
}

// leads tells whether an instruction of the same function comes behind a line.
func (m model) leads(at int) bool {
	for _, l := range m.lines[at+1:] {
		if w := l.first(); w == "func" || w == "table" {
			return false
		}
		if isOp(l.first()) {
			return true
		}
	}
	return false
}

// textWrong tells whether a line is of no kind.
func (m model) textWrong(at int) bool {
	l := m.lines[at]
	switch {
	case l.first() == "func":
		return len(l.words) != 2 || !aName.MatchString(l.words[1])
	case l.first() == "table":
		return len(l.words) < 2 || len(l.words) > 3 || !aName.MatchString(l.words[1]) || len(l.words) == 3 && l.words[2] != "default"
	case m.isLabel(at):
		return !aName.MatchString(strings.TrimSuffix(l.first(), ":"))
	case !isOp(l.first()):
		return true
	}
	op, _ := word.Find(l.first())
	registers, numbered, _, _ := shaped(op)
	if numbered != (len(l.words) == registers+2) || !numbered && len(l.words) != registers+1 {
		return true
	}
	for _, w := range l.words[1 : 1+registers] {
		if !aRegister.MatchString(w) {
			return true
		}
	}
	if !numbered {
		return false
	}
	last := l.words[registers+1]
	return !aNumber.MatchString(last) && (letter(op) == "" || !aName.MatchString(last))
}

// rangeWrong tells of an instruction or a case whether a field is out of its range.
func (m model) rangeWrong(at int) bool {
	l := m.lines[at]
	op, e := word.Find(l.first())
	if e != api.OK {
		return false
	}
	registers, numbered, least, most := shaped(op)
	for _, w := range l.words[1 : 1+registers] {
		n, _ := new(big.Int).SetString(w[1:], 10)
		if n.Cmp(big.NewInt(15)) > 0 {
			return true
		}
	}
	if !numbered || !aNumber.MatchString(l.words[registers+1]) {
		return false
	}
	n, _ := strconv.Atoi(l.words[registers+1])
	return n < least || n > most
}

func (m model) placeWrong(at int) bool {
	if m.isLabel(at) {
		return !m.inFunction(at) || !m.leads(at)
	}
	return isOp(m.lines[at].first()) && !m.isCase(at) && !m.inFunction(at)
}

func (m model) twiceWrong(at int) bool {
	for above := range at {
		a, b := m.lines[above], m.lines[at]
		if m.isLabel(at) && m.isLabel(above) && a.first() == b.first() && m.function(above) == m.function(at) {
			return true
		}
		if w := b.first(); (w == "func" || w == "table") && a.first() == w && a.words[1] == b.words[1] {
			return true
		}
	}
	return false
}

// number is what a name of a kind stands for, asked for at a line.
func (m model) number(kind, name string, at int) (int, bool) {
	words, heads := 0, 0
	for n, l := range m.lines {
		switch {
		case kind == "L" && m.isLabel(n) && l.first() == name+":" && m.function(n) == m.function(at):
			return words, true
		case kind == "f" && l.first() == "func" || kind == "t" && l.first() == "table":
			if l.words[1] == name {
				return heads, true
			}
			heads++
		case isOp(l.first()) && !m.isCase(n):
			words++
		}
	}
	return 0, false
}

// instr is the instruction of a line; false, if a name is not there.
func (m model) instr(at int) (api.Instr, bool) {
	l := m.lines[at]
	op, _ := word.Find(l.first())
	i := api.Instr{Op: op}
	registers, numbered, _, _ := shaped(op)
	for n, w := range l.words[1 : 1+registers] {
		*[]*int{&i.A, &i.B, &i.C}[n], _ = strconv.Atoi(w[1:])
	}
	there := true
	if numbered && aNumber.MatchString(l.words[registers+1]) {
		i.Imm, _ = strconv.Atoi(l.words[registers+1])
	} else if numbered {
		i.Imm, there = m.number(letter(op), l.words[registers+1], at)
	}
	return i, there
}

func (m model) parse() (api.Program, api.Errno, int) {
	for at, l := range m.lines {
		switch {
		case m.textWrong(at):
			return api.Program{}, api.ErrText, l.number
		case m.rangeWrong(at):
			return api.Program{}, api.ErrRange, l.number
		case m.placeWrong(at):
			return api.Program{}, api.ErrPlace, l.number
		case m.twiceWrong(at):
			return api.Program{}, api.ErrTwice, l.number
		}
	}
	var p api.Program
	for at, l := range m.lines {
		switch {
		case l.first() == "func":
			p.Funcs = append(p.Funcs, api.Func{Begin: len(p.Code), End: len(p.Code)})
		case l.first() == "table":
			p.Tables = append(p.Tables, api.CaseTable{Default: len(l.words) == 3})
		case m.isCase(at):
			i, _ := m.instr(at)
			cases := &p.Tables[len(p.Tables)-1].Cases
			*cases = append(*cases, api.Case{Send: l.first() == "send", Chan: i.A, Val: i.B, Ok: i.C})
		case !m.isLabel(at):
			i, there := m.instr(at)
			if !there {
				return api.Program{}, api.ErrName, l.number
			}
			w, _ := word.Encode(i)
			p.Code = append(p.Code, w)
			p.Funcs[len(p.Funcs)-1].End++
		}
	}
	return p, api.OK, 0
}

// printable tells, by the document's words, of a program that Parse told whether it has a text: its words and its cases are such as may be.
func printable(p api.Program) bool {
	last := len(p.Funcs) - 1
	if last < 0 || p.Funcs[0].Begin != 0 || p.Funcs[last].End != len(p.Code) {
		return false
	}
	for n, f := range p.Funcs {
		if f.End-f.Begin < 1 || n > 0 && f.Begin != p.Funcs[n-1].End {
			return false
		}
		for _, w := range p.Code[f.Begin:f.End] {
			i, _ := word.Decode(w)
			least, most := 0, map[string]int{"L": f.End, "f": len(p.Funcs), "t": len(p.Tables)}[letter(i.Op)]
			if letter(i.Op) == "L" {
				least = f.Begin
			}
			if letter(i.Op) != "" && (i.Imm < least || i.Imm >= most) {
				return false
			}
		}
	}
	return true
}

// likeModel holds Parse of a text against the model; and, D3, D4, what Print makes of the program: the model's text, read as the program again, or what is refused.
func likeModel(t *testing.T, s string) api.Errno {
	t.Helper()
	want, refusal, line := newModel(s).parse()
	p, e, n := listing.Parse(s)
	if !same(p, want) || e != refusal || n != line {
		t.Fatalf("Parse(%s): %+v, %d, %d, not %+v, %d, %d", brief(s), p, e, n, want, refusal, line)
	}
	if !printable(p) {
		unprinted(t, p, api.ErrArg)
	} else if printed := modelPrint(t, p); len(printed) > api.MaxText {
		unprinted(t, p, api.ErrLong)
	} else {
		prints(t, p, printed)
	}
	return e
}

// TestAllShortTexts: D1: all texts of up to four lines out of some of each kind, right and wrong.
func TestAllShortTexts(t *testing.T) {
	lines := []string{
		"func f", "func g", "func", "x:", "y:", "table t", "table f default", "send r1 r2", "recv r16 r2 r3",
		"exit", "jump x", "call g", "select r1 t", "set r1", "foo",
	}
	var walk func(before string, left int)
	walk = func(before string, left int) {
		likeModel(t, before)
		if left == 0 {
			return
		}
		for _, l := range lines {
			walk(before+l+"\n", left-1)
		}
	}
	walk("", 4)
}

// TestMixedTexts: D1, D4: long texts of random lines, mostly right; all kinds of answers come.
func TestMixedTexts(t *testing.T) {
	random := rand.New(rand.NewPCG(7, 1))
	seen := map[api.Errno]int{}
	for range 20000 {
		var s strings.Builder
		for range random.IntN(14) {
			s.WriteString(randomLine(random) + "\n")
		}
		seen[likeModel(t, s.String())]++
	}
	for _, e := range []api.Errno{api.OK, api.ErrText, api.ErrRange, api.ErrPlace, api.ErrTwice, api.ErrName} {
		if seen[e] < 100 {
			t.Errorf("%d came %d times alone", e, seen[e])
		}
	}
}

// oneOf is one of some texts.
func oneOf(random *rand.Rand, all ...string) string { return all[random.IntN(len(all))] }

// randomLine is a line that often may be, of few names, so that they meet.
func randomLine(random *rand.Rand) string {
	name := oneOf(random, "f", "g", "x", "y", "r1")
	line := ""
	switch random.IntN(12) {
	case 0, 1:
		line = "func " + oneOf(random, "f", "g", "x", "y", "h", "i")
	case 2, 3:
		line = name + ":"
	case 4:
		line = "table " + name + oneOf(random, "", " default")
	case 5, 6:
		line = oneOf(random, "send r1 r2", "recv r3 r4 r15", "send r0 r0", "exit", "nop")
	case 7:
		line = oneOf(random, "send r1", "set r16 1", "set r1 -32769", "foo", "jump 65536", "exit x", "x: y", "9:", "func", "table f f", "set r01 1", "jump -1")
	default:
		line = randomInstr(random, name)
	}
	for range random.IntN(3) {
		line = strings.Replace(line, " ", oneOf(random, " ", "\t", "  ", " \r"), 1)
	}
	return oneOf(random, "", "", "\t", " ") + line + oneOf(random, "", "", " ", "\r", " ; x:", ";exit")
}

// randomInstr is an instruction's line with fields that may be.
func randomInstr(random *rand.Rand, name string) string {
	op := 1 + random.IntN(api.Ops-1)
	if random.IntN(2) == 0 {
		op = []int{api.OpJump, api.OpZero, api.OpSome, api.OpCall, api.OpSpawn, api.OpSelect}[random.IntN(6)]
	}
	line, _ := word.Name(op)
	registers, numbered, least, most := shaped(op)
	for range registers {
		line += " r" + strconv.Itoa(random.IntN(16))
	}
	if numbered && letter(op) != "" {
		line += " " + oneOf(random, name, name, "0", "1")
	} else if numbered {
		line += " " + strconv.Itoa(least+random.IntN(most-least+1))
	}
	return line
}

// TestThereAndBack: D2, D3, D4: random programs that may be printed: the text is as the model writes it, and is read as the program.
func TestThereAndBack(t *testing.T) {
	random := rand.New(rand.NewPCG(7, 2))
	for range 5000 {
		p := randomProgram(t, random)
		prints(t, p, modelPrint(t, p))
	}
}

// randomProgram is one whose jumps, functions and tables are there, and whose cases' unused fields are anything.
func randomProgram(t *testing.T, random *rand.Rand) api.Program {
	t.Helper()
	var p api.Program
	for range random.IntN(4) {
		table := api.CaseTable{Default: random.IntN(2) == 0}
		for range random.IntN(4) {
			c := api.Case{Send: random.IntN(2) == 0, Chan: random.IntN(16), Val: random.IntN(16), Ok: random.IntN(16)}
			if c.Send {
				c.Ok = random.IntN(100) - 50
			}
			table.Cases = append(table.Cases, c)
		}
		p.Tables = append(p.Tables, table)
	}
	for range 1 + random.IntN(4) {
		begin := len(p.Code)
		p.Funcs = append(p.Funcs, api.Func{Begin: begin, End: begin + 1 + random.IntN(6)})
		p.Code = append(p.Code, make([]uint32, p.Funcs[len(p.Funcs)-1].End-begin)...)
	}
	for _, f := range p.Funcs {
		for at := f.Begin; at < f.End; at++ {
			p.Code[at] = randomWord(t, random, p, f)
		}
	}
	return p
}

func randomWord(t *testing.T, random *rand.Rand, p api.Program, f api.Func) uint32 {
	t.Helper()
	i := api.Instr{Op: 1 + random.IntN(api.Ops-1)}
	if random.IntN(3) == 0 {
		i.Op = []int{api.OpJump, api.OpZero, api.OpSome, api.OpCall, api.OpSpawn}[random.IntN(5)]
	}
	if i.Op == api.OpSelect && len(p.Tables) == 0 {
		i.Op = api.OpYield
	}
	registers, numbered, least, most := shaped(i.Op)
	for at := range registers {
		*[]*int{&i.A, &i.B, &i.C}[at] = random.IntN(16)
	}
	switch {
	case letter(i.Op) == "L":
		i.Imm = f.Begin + random.IntN(f.End-f.Begin)
	case letter(i.Op) == "f":
		i.Imm = random.IntN(len(p.Funcs))
	case letter(i.Op) == "t":
		i.Imm = random.IntN(len(p.Tables))
	case numbered:
		i.Imm = least + random.IntN(most-least+1)
	}
	return code(t, i)[0]
}

// modelPrint is a program's text by the document's words; its lines of instructions are those that Line tells.
func modelPrint(t *testing.T, p api.Program) string {
	t.Helper()
	out := ""
	for n, table := range p.Tables {
		out += "table t" + strconv.Itoa(n) + map[bool]string{true: " default"}[table.Default] + "\n"
		for _, c := range table.Cases {
			if c.Send {
				out += "send r" + strconv.Itoa(c.Chan) + " r" + strconv.Itoa(c.Val) + "\n"
			} else {
				out += "recv r" + strconv.Itoa(c.Chan) + " r" + strconv.Itoa(c.Val) + " r" + strconv.Itoa(c.Ok) + "\n"
			}
		}
	}
	for n, f := range p.Funcs {
		out += "func f" + strconv.Itoa(n) + "\n"
		for at := f.Begin; at < f.End; at++ {
			for _, w := range p.Code[f.Begin:f.End] {
				if i, _ := word.Decode(w); letter(i.Op) == "L" && i.Imm == at {
					out += "L" + strconv.Itoa(at) + ":\n"
					break
				}
			}
			line, e := listing.Line(p, at)
			if e != api.OK {
				t.Fatalf("Line(%+v, %d): %d", p, at, e)
			}
			out += line + "\n"
		}
	}
	return out
}

// FuzzParse: D1, D4, R1: any bytes at all.
func FuzzParse(f *testing.F) {
	f.Add(rich())
	f.Add("func f\nset r99999999999 1")
	f.Add("x:\nfunc f\nx:\n")
	f.Add("func f\x00\r\n;")
	f.Fuzz(func(t *testing.T, s string) { likeModel(t, s) })
}
