package listing_test

import (
	"math"
	"strconv"
	"strings"
	"testing"

	"rota/api"
	"rota/listing"
	"rota/word"
)

// TestLineOfEachOperation: D2: the name, then the registers, then the number: decimal, or with the letter of what it names.
func TestLineOfEachOperation(t *testing.T) {
	for op := api.OpNop; op < api.Ops; op++ {
		registers, numbered, least, most := shaped(op)
		name, _ := word.Name(op)
		for r := range 16 {
			for _, imm := range []int{least, most, (least + most) / 2, min(most, 10), max(least, -1)} {
				i, want := api.Instr{Op: op, Imm: imm}, name
				for at := range registers {
					*[]*int{&i.A, &i.B, &i.C}[at] = (r + 5*at) % 16
					want += " r" + strconv.Itoa((r+5*at)%16)
				}
				if numbered {
					want += " " + letter(op) + strconv.Itoa(imm)
				}
				// No function need have the word, and what it names need not be there.
				p := api.Program{Code: append(code(t, api.Instr{Op: api.OpNop}, i), 0)}
				if s, e := listing.Line(p, 1); s != want || e != api.OK {
					t.Fatalf("Line of %+v: %q, %d, not %q", i, s, e, want)
				}
			}
		}
	}
}

// TestLinesByHand: D2: some lines, written out.
func TestLinesByHand(t *testing.T) {
	for w, want := range map[uint32]string{
		0x01000000: "nop", 0x02100005: "set r1 5", 0x0240FFFF: "set r4 -1", 0x02F08000: "set r15 -32768", 0x03F0FFFF: "high r15 65535",
		0x05120003: "add r1 r2 r3", 0x11000007: "jump L7", 0x12A00000: "zero r10 L0", 0x13100001: "some r1 L1", 0x14000003: "call f3",
		0x1630FFFF: "spawn r3 f65535", 0x22500002: "select r5 t2", 0x1D120000: "send r1 r2", 0x1E340005: "recv r3 r4 r5", 0x3A00000A: "trap 10", 0x19F00000: "self r15",
	} {
		if s, e := listing.Line(api.Program{Code: []uint32{w}}, 0); s != want || e != api.OK {
			t.Errorf("Line of %08x: %q, %d, not %q", w, s, e, want)
		}
	}
}

// TestLineRefused: D2: a place that is no word comes ahead of what Decode refuses.
func TestLineRefused(t *testing.T) {
	p := api.Program{Code: []uint32{0x01000000, 0x00000000, 0xFF000000, 0x05120013, 0x18000001, 0x3B000000}, Funcs: []api.Func{{Begin: 0, End: 9}}}
	for at, want := range []api.Errno{api.OK, api.ErrOp, api.ErrOp, api.ErrField, api.ErrField, api.ErrOp} {
		s, e := listing.Line(p, at)
		if e != want || (s != "") != (want == api.OK) {
			t.Errorf("Line at %d: %q, %d, not %d", at, s, e, want)
		}
	}
	for _, at := range []int{-1, 6, 7, -6, 1 << 31, 1 << 32, -1 << 32, math.MaxInt, math.MinInt} {
		if s, e := listing.Line(p, at); s != "" || e != api.ErrArg {
			t.Errorf("Line at %d: %q, %d", at, s, e)
		}
	}
	for _, at := range []int{0, -1, 1} {
		if s, e := listing.Line(api.Program{Funcs: p.Funcs}, at); s != "" || e != api.ErrArg {
			t.Errorf("Line of nothing at %d: %q, %d", at, s, e)
		}
	}
	// What lies behind the list's end is no word.
	if s, e := listing.Line(api.Program{Code: p.Code[:0]}, 0); s != "" || e != api.ErrArg {
		t.Errorf("Line behind the end: %q, %d", s, e)
	}
}

// TestPrint: D3: tables first, then functions with their labels, all by their numbers.
func TestPrint(t *testing.T) {
	p := api.Program{
		Code: code(t,
			api.Instr{Op: api.OpZero, A: 1, Imm: 3}, api.Instr{Op: api.OpSpawn, A: 2, Imm: 1}, api.Instr{Op: api.OpSelect, A: 3, Imm: 2}, api.Instr{Op: api.OpJump, Imm: 0},
			api.Instr{Op: api.OpSome, A: 4, Imm: 4}, api.Instr{Op: api.OpJump, Imm: 4}, api.Instr{Op: api.OpSet, A: 5, Imm: 6},
			api.Instr{Op: api.OpCall, Imm: 0}, api.Instr{Op: api.OpTrap, Imm: 7}),
		Funcs: []api.Func{{Begin: 0, End: 4}, {Begin: 4, End: 7}, {Begin: 7, End: 9}},
		Tables: []api.CaseTable{
			{}, {Default: true}, {Cases: []api.Case{{Send: true, Chan: 1, Val: 2}, {Chan: 15, Val: 0, Ok: 9}}},
			{Default: true, Cases: []api.Case{{Chan: 0, Val: 15, Ok: 15}}},
		},
	}
	prints(t, p, text(
		"table t0", "table t1 default", "table t2", "send r1 r2", "recv r15 r0 r9", "table t3 default", "recv r0 r15 r15",
		"func f0", "L0:", "zero r1 L3", "spawn r2 f1", "select r3 t2", "L3:", "jump L0",
		"func f1", "L4:", "some r4 L4", "jump L4", "set r5 6",
		"func f2", "call f0", "trap 7"))
	// Numbers that are no targets have no label, a function or a table of that number neither.
	prints(t, one(t, api.Instr{Op: api.OpCall}, api.Instr{Op: api.OpSpawn, A: 1}, api.Instr{Op: api.OpSet, A: 1, Imm: 1}, api.Instr{Op: api.OpTrap, Imm: 2}, api.Instr{Op: api.OpHigh, Imm: 3}),
		text("func f0", "call f0", "spawn r1 f0", "set r1 1", "trap 2", "high r0 3"))
}

// TestPrintWithoutFunctions: D3: where there is no function, the functions do not part the code, whatever else there is; nor do they, if the only one has no word.
func TestPrintWithoutFunctions(t *testing.T) {
	exit := code(t, api.Instr{Op: api.OpExit})
	long := make([]api.CaseTable, api.MaxText)
	room := []api.Func{{Begin: 0, End: 1}, {}}
	for _, words := range [][]uint32{nil, {}, exit, exit[:0], {0}, {0x05120013}} {
		for _, tables := range [][]api.CaseTable{nil, {}, {{}}, {{Default: true}}, {{Cases: []api.Case{{Send: true, Chan: 1, Val: 2}}}, {}}, {{Cases: []api.Case{{Chan: 16}}}}, long} {
			unprinted(t, api.Program{Code: words, Tables: tables}, api.ErrArg)
			// What lies behind the list's end is no function.
			unprinted(t, api.Program{Code: words, Funcs: room[:0], Tables: tables}, api.ErrArg)
		}
	}
	for _, tables := range [][]api.CaseTable{nil, {{Default: true}}} {
		unprinted(t, api.Program{Funcs: []api.Func{{}}, Tables: tables}, api.ErrArg)
		prints(t, api.Program{Code: exit, Funcs: room[:1], Tables: tables}, strings.Repeat("table t0 default\n", len(tables))+"func f0\nexit\n")
	}
}

// TestParsedButNotPrinted: D1, D3: texts that tell a program without functions, or a function without words, which Print refuses.
func TestParsedButNotPrinted(t *testing.T) {
	for _, s := range []string{"", "\n", "; func f", "table t\n", "table t default\nsend r1 r2\n", "func f\n", "func f\nexit\nfunc g\n", "func f\nfunc g\nexit\n", "func f\ntable t\n"} {
		unprinted(t, parsed(t, s), api.ErrArg)
	}
}

// TestCasesUnusedFields: D3, D4: what a case does not use may be anything, and is 0 when it is read again.
func TestCasesUnusedFields(t *testing.T) {
	for _, ok := range []int{0, 1, 15, 16, -1, math.MaxInt, math.MinInt} {
		p := one(t, api.Instr{Op: api.OpExit})
		p.Tables = []api.CaseTable{{Cases: []api.Case{{Send: true, Chan: 3, Val: 4, Ok: ok}}}}
		prints(t, p, text("table t0", "send r3 r4", "func f0", "exit"))
	}
}

// TestPrintOfUnpartedCode: D3: functions that do not part the code, one way and another.
func TestPrintOfUnpartedCode(t *testing.T) {
	nop := api.Instr{Op: api.OpNop}
	for _, funcs := range [][]api.Func{
		{}, {{Begin: 0, End: 2}}, {{Begin: 0, End: 4}}, {{Begin: 1, End: 3}}, {{Begin: -1, End: 3}}, {{Begin: 0, End: 0}}, {{Begin: 3, End: 0}}, {{Begin: 0, End: -1}},
		{{Begin: 0, End: 1}, {Begin: 2, End: 3}}, {{Begin: 0, End: 2}, {Begin: 1, End: 3}}, {{Begin: 0, End: 3}, {Begin: 3, End: 3}}, {{Begin: 0, End: 0}, {Begin: 0, End: 3}},
		{{Begin: 0, End: 1}, {Begin: 1, End: 1}, {Begin: 1, End: 3}}, {{Begin: 1, End: 3}, {Begin: 0, End: 1}}, {{Begin: 0, End: 3}, {Begin: 0, End: 3}},
		{{Begin: 0, End: 2}, {Begin: 2, End: 4}}, {{Begin: 0, End: 2}, {Begin: 2, End: 1}, {Begin: 1, End: 3}}, {{Begin: 0, End: 3}, {Begin: 3, End: 2}, {Begin: 2, End: 3}},
		{{Begin: 0, End: 5}, {Begin: 5, End: 3}}, {{Begin: 0, End: math.MaxInt}}, {{Begin: math.MinInt, End: 3}}, {{Begin: 0, End: math.MaxInt}, {Begin: math.MaxInt, End: 3}},
		{{Begin: 0, End: math.MinInt}, {Begin: math.MinInt, End: 3}}, {{Begin: 0, End: 3}, {Begin: 3, End: math.MaxInt}},
	} {
		// Room behind the list's end is no word.
		words := append(code(t, nop, nop, nop), code(t, nop, nop)...)
		unprinted(t, api.Program{Code: words[:3], Funcs: funcs}, api.ErrArg)
	}
}

// TestPrintOfWhatIsNotThere: D3: targets, functions and tables that there are not.
func TestPrintOfWhatIsNotThere(t *testing.T) {
	exit := api.Instr{Op: api.OpExit}
	for _, op := range []int{api.OpJump, api.OpZero, api.OpSome} {
		for imm, fine := range map[int]bool{0: false, 1: false, 2: true, 3: true, 4: false, 5: false, 65535: false} {
			p := api.Program{Code: code(t, exit, exit, exit, api.Instr{Op: op, Imm: imm}, exit), Funcs: []api.Func{{Begin: 0, End: 2}, {Begin: 2, End: 4}, {Begin: 4, End: 5}}}
			isThere(t, p, fine)
		}
	}
	for _, op := range []int{api.OpCall, api.OpSpawn} {
		for imm, fine := range map[int]bool{0: true, 1: true, 2: false, 3: false, 4: false, 65535: false} {
			p := api.Program{Code: code(t, exit, exit, exit, api.Instr{Op: op, Imm: imm}), Funcs: []api.Func{{Begin: 0, End: 2}, {Begin: 2, End: 4}}, Tables: make([]api.CaseTable, 9)}
			isThere(t, p, fine)
		}
	}
	for tables := range 4 {
		for imm := range 5 {
			p := one(t, exit, exit, exit, exit, api.Instr{Op: api.OpSelect, Imm: imm})
			p.Tables = make([]api.CaseTable, tables)
			isThere(t, p, imm < tables)
		}
	}
}

// isThere asks whether a program is printed, or refused because of what is not there.
func isThere(t *testing.T, p api.Program, fine bool) {
	t.Helper()
	if !fine {
		unprinted(t, p, api.ErrArg)
		return
	}
	s, e := listing.Print(p)
	if e != api.OK {
		t.Errorf("Print(%+v): %d", p, e)
	}
	reads(t, s, used(p))
}

// TestPrintOfCasesThatAreNone: D3: fields of cases that are no registers.
func TestPrintOfCasesThatAreNone(t *testing.T) {
	for _, n := range []int{-1, 16, 17, 31, 32, 256, -16, 1 << 32, -1 << 32, 1<<32 + 1, math.MaxInt, math.MinInt} {
		for _, c := range []api.Case{{Chan: n}, {Val: n}, {Ok: n}, {Send: true, Chan: n}, {Send: true, Val: n}, {Send: true, Val: n, Ok: 1}} {
			p := one(t, api.Instr{Op: api.OpExit})
			p.Tables = []api.CaseTable{{}, {Cases: []api.Case{{}, {Chan: 15, Val: 15, Ok: 15}, c}}}
			unprinted(t, p, api.ErrArg)
			p.Tables = []api.CaseTable{{Default: true, Cases: []api.Case{c}}}
			unprinted(t, p, api.ErrArg)
		}
	}
}

// TestWhichIsToldOfAProgram: D3: what may not be at all, wherever it stands, comes ahead of what Decode refuses of the first such word.
func TestWhichIsToldOfAProgram(t *testing.T) {
	nop, noOp, noField := code(t, api.Instr{Op: api.OpNop})[0], uint32(0), uint32(0x05120013)
	all := func(words ...uint32) api.Program {
		return api.Program{Code: words, Funcs: []api.Func{{Begin: 0, End: len(words)}}}
	}
	unprinted(t, all(noOp), api.ErrOp)
	unprinted(t, all(noField), api.ErrField)
	unprinted(t, all(nop, noOp, noField), api.ErrOp)
	unprinted(t, all(nop, noField, noOp), api.ErrField)
	unprinted(t, all(nop, nop, 0xFF000000), api.ErrOp)
	for _, bad := range []uint32{0x11000007, 0x12000007, 0x13F00007, 0x14000001, 0x16100001, 0x22100000} {
		unprinted(t, all(bad, noOp), api.ErrArg)
		unprinted(t, all(noOp, bad), api.ErrArg)
		unprinted(t, all(noField, nop, noOp, bad), api.ErrArg)
	}
	p := all(noField, nop)
	p.Tables = []api.CaseTable{{Cases: []api.Case{{Chan: 16}}}}
	unprinted(t, p, api.ErrArg)
	p = all(noOp, nop)
	p.Funcs[0].End = 1
	unprinted(t, p, api.ErrArg)
	p.Funcs = nil
	unprinted(t, p, api.ErrArg)
	// A word that Decode refuses is no jump, whatever its bits would name.
	unprinted(t, all(0x11100007, nop), api.ErrField)
	unprinted(t, all(0x12010007, nop), api.ErrField)
	unprinted(t, all(0x22010007, nop), api.ErrField)
	p = api.Program{Code: []uint32{nop, noField, noOp, 0x11000001}, Funcs: []api.Func{{Begin: 0, End: 2}, {Begin: 2, End: 4}}}
	unprinted(t, p, api.ErrArg)
	p.Code[3] = 0x11000002
	unprinted(t, p, api.ErrField)
}

// TestPrintBounds: D3, D4: texts of MaxText bytes and of one more; what else is wrong comes ahead.
func TestPrintBounds(t *testing.T) {
	// The head has 8 bytes, "nop\n" 4, and "set r1 5\n" 9, so that all of the last four bytes are come to.
	for odd := range 4 {
		var p api.Program
		for range odd {
			p.Code = append(p.Code, 0x02100005)
		}
		rest := (api.MaxText - 8 - 9*odd) / 4
		for range rest {
			p.Code = append(p.Code, 0x01000000)
		}
		p.Funcs = []api.Func{{Begin: 0, End: len(p.Code)}}
		prints(t, p, "func f0\n"+strings.Repeat("set r1 5\n", odd)+strings.Repeat("nop\n", rest))
		p.Code = append(p.Code, 0x01000000)
		p.Funcs[0].End++
		unprinted(t, p, api.ErrLong)
	}
	long := api.Program{Code: make([]uint32, 300000), Funcs: []api.Func{{Begin: 0, End: 300000}}}
	for at := range long.Code {
		long.Code[at] = 0x01000000
	}
	unprinted(t, long, api.ErrLong)
	long.Code[299999] = 0
	unprinted(t, long, api.ErrOp)
	long.Code[299998] = 0x14000001
	unprinted(t, long, api.ErrArg)
}

// TestPrintBoundsOfTables: D3: tables count as functions do, to the last byte.
func TestPrintBoundsOfTables(t *testing.T) {
	const head, short, long, tail = "table t0\n", "send r1 r2\n", "send r10 r2\n", "func f0\nexit\n"
	rest := api.MaxText - len(head) - len(tail)
	longer := rest % len(short)
	count := rest / len(short)
	p := one(t, api.Instr{Op: api.OpExit})
	p.Tables = make([]api.CaseTable, 1)
	var want strings.Builder
	want.WriteString(head)
	for n := range count {
		c, line := api.Case{Send: true, Chan: 1, Val: 2}, short
		if n < longer {
			c.Chan, line = 10, long
		}
		p.Tables[0].Cases = append(p.Tables[0].Cases, c)
		want.WriteString(line)
	}
	want.WriteString(tail)
	if want.Len() != api.MaxText {
		t.Fatal(want.Len())
	}
	prints(t, p, want.String())
	p.Tables[0].Cases[longer].Val = 10
	unprinted(t, p, api.ErrLong)
	p.Tables[0].Cases[longer].Val = 16
	unprinted(t, p, api.ErrArg)
}
