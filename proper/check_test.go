package proper_test

import (
	"math"
	"slices"
	"testing"

	"rota/api"
	"rota/word"
)

// TestCheckExamples: Q1: the chapter's examples.
func TestCheckExamples(t *testing.T) {
	p := api.Program{Code: words(t, "set r1 5", "exit")}
	for _, c := range []struct {
		funcs []api.Func
		place int
		e     api.Errno
	}{
		{[]api.Func{{Begin: 0, End: 1}, {Begin: 1, End: 2}}, 0, api.ErrOut},
		{nil, 0, api.ErrFunc},
		{[]api.Func{{Begin: 0, End: 1}}, 1, api.ErrFunc},
		{[]api.Func{{Begin: 0, End: 2}, {Begin: 2, End: 2}}, 1, api.ErrFunc},
	} {
		p.Funcs = c.funcs
		wrong(t, p, c.place, c.e)
	}
	p.Funcs = []api.Func{{Begin: 0, End: 2}}
	fine(t, p)
	fine(t, one(t, "jump 0"))
	fine(t, one(t, "zero r1 0", "exit"))
	wrong(t, one(t, "jump 2", "exit"), 0, api.ErrTarget)
	fine(t, one(t, "call 0", "ret"))
	wrong(t, one(t, "jump 2", "call 7", "exit"), 1, api.ErrFunc)
}

// exits is a program of so many words, each a function of its own.
func exits(count int) api.Program {
	var p api.Program
	for n := range count {
		p.Code = append(p.Code, 0x18000000)
		p.Funcs = append(p.Funcs, api.Func{Begin: n, End: n + 1})
	}
	return p
}

// whole is a program as one function.
func whole(p api.Program) api.Program {
	p.Funcs = []api.Func{{Begin: 0, End: len(p.Code)}}
	return p
}

// TestLimits: Q1: as many words, functions, tables and cases as may be, and one more of each.
func TestLimits(t *testing.T) {
	fine(t, whole(exits(api.MaxCode)))
	wrong(t, whole(exits(api.MaxCode+1)), 0, api.ErrFull)
	fine(t, exits(api.MaxFuncs))
	wrong(t, exits(api.MaxFuncs+1), 0, api.ErrFull)
	p := exits(1)
	p.Tables = make([]api.CaseTable, api.MaxTables)
	fine(t, p)
	p.Tables = make([]api.CaseTable, api.MaxTables+1)
	wrong(t, p, 0, api.ErrFull)
	p.Tables = make([]api.CaseTable, api.MaxTables)
	p.Tables[255].Cases = make([]api.Case, api.MaxCases)
	fine(t, p)
	p.Tables[255].Cases = make([]api.Case, api.MaxCases+1)
	wrong(t, p, 255, api.ErrTable)
	p.Tables[0].Cases = make([]api.Case, api.MaxCases+1)
	wrong(t, p, 0, api.ErrTable)
	p.Tables[0] = api.CaseTable{Cases: make([]api.Case, api.MaxCases), Default: true}
	wrong(t, p, 255, api.ErrTable)
}

// TestFullComesFirst: Q1: ErrFull of one list comes ahead of all that is wrong with the others, and of what is wrong in itself.
func TestFullComesFirst(t *testing.T) {
	for _, code := range [][]uint32{nil, {noOp}, make([]uint32, api.MaxCode)} {
		for _, funcs := range [][]api.Func{nil, {{Begin: 3, End: 1}}, make([]api.Func, api.MaxFuncs)} {
			for _, tables := range [][]api.CaseTable{nil, {{Cases: []api.Case{{Chan: 16}}}}, make([]api.CaseTable, api.MaxTables)} {
				wrong(t, api.Program{Code: make([]uint32, api.MaxCode+1), Funcs: funcs, Tables: tables}, 0, api.ErrFull)
				wrong(t, api.Program{Code: code, Funcs: make([]api.Func, api.MaxFuncs+1), Tables: tables}, 0, api.ErrFull)
				wrong(t, api.Program{Code: code, Funcs: funcs, Tables: make([]api.CaseTable, api.MaxTables+1)}, 0, api.ErrFull)
			}
		}
	}
}

// TestFunctionsThatDoNotPart: Q1: a function that begins where it must not, has no word, or ends behind the code's end; none at all; a last one that does not end at the code's end.
func TestFunctionsThatDoNotPart(t *testing.T) {
	p := whole(exits(4))
	for _, c := range []struct {
		funcs []api.Func
		place int
	}{
		{nil, 0},
		{[]api.Func{}, 0},
		{[]api.Func{{Begin: 1, End: 4}}, 0},
		{[]api.Func{{Begin: -1, End: 4}}, 0},
		{[]api.Func{{Begin: 0, End: 0}}, 0},
		{[]api.Func{{Begin: 0, End: -1}}, 0},
		{[]api.Func{{Begin: 0, End: 5}}, 0},
		{[]api.Func{{Begin: 0, End: 3}}, 1},
		{[]api.Func{{Begin: 0, End: 1}, {Begin: 1, End: 2}}, 2},
		{[]api.Func{{Begin: 0, End: 2}, {Begin: 1, End: 4}}, 1},
		{[]api.Func{{Begin: 0, End: 2}, {Begin: 3, End: 4}}, 1},
		{[]api.Func{{Begin: 0, End: 2}, {Begin: 0, End: 4}}, 1},
		{[]api.Func{{Begin: 0, End: 2}, {Begin: 2, End: 2}, {Begin: 2, End: 4}}, 1},
		{[]api.Func{{Begin: 0, End: 2}, {Begin: 2, End: 1}, {Begin: 1, End: 4}}, 1},
		{[]api.Func{{Begin: 0, End: 2}, {Begin: 2, End: 5}, {Begin: 5, End: 4}}, 1},
		{[]api.Func{{Begin: 0, End: 2}, {Begin: 2, End: 4}, {Begin: 4, End: 4}}, 2},
		{[]api.Func{{Begin: 0, End: 2}, {Begin: 2, End: 4}, {Begin: 4, End: 5}}, 2},
		{[]api.Func{{Begin: 0, End: 2}, {Begin: 2, End: 4}, {Begin: 0, End: 4}}, 2},
		{[]api.Func{{Begin: 2, End: 4}, {Begin: 0, End: 2}}, 0},
		{[]api.Func{{Begin: 0, End: 1}, {Begin: 2, End: 3}, {Begin: 3, End: 3}}, 1},
		{[]api.Func{{Begin: math.MinInt, End: math.MaxInt}}, 0},
		{[]api.Func{{Begin: 0, End: math.MaxInt}}, 0},
		{[]api.Func{{Begin: 0, End: math.MinInt}}, 0},
		{[]api.Func{{Begin: 0, End: math.MinInt}, {Begin: math.MinInt, End: 4}}, 0},
		{[]api.Func{{Begin: 0, End: 2}, {Begin: math.MaxInt, End: math.MinInt}}, 1},
		{[]api.Func{{Begin: 0, End: 2}, {Begin: 2 - 1<<32, End: 4 - 1<<32}}, 1},
		{[]api.Func{{Begin: 0, End: 4 + 1<<32}}, 0},
	} {
		p.Funcs = c.funcs
		wrong(t, p, c.place, api.ErrFunc)
	}
	p.Funcs = []api.Func{{Begin: 0, End: 1}, {Begin: 1, End: 3}, {Begin: 3, End: 4}}
	fine(t, p)
}

// TestNoCode: Q1: where there is no word no function can be, and without functions nothing parts even no code.
func TestNoCode(t *testing.T) {
	wrong(t, api.Program{}, 0, api.ErrFunc)
	wrong(t, api.Program{Code: []uint32{}, Funcs: []api.Func{}, Tables: []api.CaseTable{}}, 0, api.ErrFunc)
	wrong(t, api.Program{Tables: []api.CaseTable{{}}}, 0, api.ErrFunc)
	wrong(t, api.Program{Funcs: []api.Func{{}}}, 0, api.ErrFunc)
	wrong(t, api.Program{Funcs: []api.Func{{Begin: 0, End: 1}}}, 0, api.ErrFunc)
	wrong(t, api.Program{Funcs: []api.Func{{}, {}}}, 0, api.ErrFunc)
}

// TestManyFunctions: Q1: places at the limit: the last of MaxFuncs is told by its number, and what is behind it by theirs.
func TestManyFunctions(t *testing.T) {
	p := exits(api.MaxFuncs)
	p.Funcs[255].End++
	wrong(t, p, 255, api.ErrFunc)
	p.Code = append(p.Code, p.Code[0], p.Code[0])
	wrong(t, p, 256, api.ErrFunc)
	p.Funcs[255].End++
	fine(t, p)
	p.Funcs[200].End, p.Funcs[100].Begin = 7, 7
	wrong(t, p, 100, api.ErrFunc)
}

// tabled is a fine program with a table of a case, behind one that is fine and ahead of another.
func tabled(t *testing.T, cases ...api.Case) api.Program {
	t.Helper()
	p := one(t, "select r1 0", "select r2 2", "exit")
	p.Tables = []api.CaseTable{{Cases: []api.Case{{}, {Chan: 15, Val: 15, Ok: 15}}}, {Cases: cases}, {Default: true}}
	return p
}

// TestCases: Q1: fields that are no registers, and a Send with an Ok, first or last among the cases.
func TestCases(t *testing.T) {
	good := []api.Case{
		{}, {Chan: 15}, {Val: 15}, {Ok: 15}, {Chan: 1, Val: 2, Ok: 3}, {Chan: 15, Val: 15, Ok: 15},
		{Send: true}, {Send: true, Chan: 15}, {Send: true, Val: 15}, {Send: true, Chan: 15, Val: 15},
	}
	fine(t, tabled(t))
	fine(t, tabled(t, good...))
	for _, c := range good {
		fine(t, tabled(t, c))
	}
	var bad []api.Case
	for _, n := range []int{-1, 16, 17, 32, 255, 256, -16, 1 << 32, -1 << 32, 1<<32 + 1, math.MaxInt, math.MinInt} {
		bad = append(bad, api.Case{Chan: n}, api.Case{Val: n}, api.Case{Ok: n})
		bad = append(bad, api.Case{Send: true, Chan: n}, api.Case{Send: true, Val: n}, api.Case{Send: true, Ok: n})
	}
	for n := 1; n < api.Registers; n++ {
		bad = append(bad, api.Case{Send: true, Ok: n}, api.Case{Send: true, Chan: 15, Val: 15, Ok: n})
	}
	for _, c := range bad {
		wrong(t, tabled(t, c), 1, api.ErrTable)
		wrong(t, tabled(t, append(slices.Clone(good), c)...), 1, api.ErrTable)
		wrong(t, tabled(t, append([]api.Case{c}, good...)...), 1, api.ErrTable)
		p := tabled(t, c)
		p.Tables[2].Cases = []api.Case{{Chan: 99}}
		wrong(t, p, 1, api.ErrTable)
		p.Tables[0].Cases[1].Val = 16
		wrong(t, p, 0, api.ErrTable)
	}
}

// TestTablesThatNobodyNames: Q1: a table is looked at whether or not a Select names it.
func TestTablesThatNobodyNames(t *testing.T) {
	p := one(t, "exit")
	p.Tables = []api.CaseTable{{Default: true}, {}, {Cases: []api.Case{{Send: true, Ok: 1}}}}
	wrong(t, p, 2, api.ErrTable)
	p.Tables[2].Cases[0].Ok = 0
	fine(t, p)
}

// TestWordsThatAreNone: Q1: ErrWord of what Decode refuses, wherever it stands, and ahead of all else that would fit its bits.
func TestWordsThatAreNone(t *testing.T) {
	exit := words(t, "exit")[0]
	for _, w := range []uint32{noOp, noField, 0xFF000000, 0xFFFFFFFF, 0x3B000000, 0x18000001, 0x01100000, 0x11100000, 0x1110FFFF, 0x1201FFFF, 0x1401FFFF, 0x1601FFFF, 0x2201FFFF} {
		if _, e := word.Decode(w); e == api.OK {
			t.Fatalf("%08x is a word", w)
		}
		wrong(t, whole(api.Program{Code: []uint32{w}}), 0, api.ErrWord)
		wrong(t, whole(api.Program{Code: []uint32{w, exit}}), 0, api.ErrWord)
		wrong(t, whole(api.Program{Code: []uint32{exit, w, exit}}), 1, api.ErrWord)
		wrong(t, whole(api.Program{Code: []uint32{exit, exit, w}}), 2, api.ErrWord)
		p := exits(3)
		p.Code[1] = w
		wrong(t, p, 1, api.ErrWord)
	}
}

// TestTargets: Q1: a target is a word of its own function, from its first on to its last; all others are refused.
func TestTargets(t *testing.T) {
	for _, op := range []int{api.OpJump, api.OpZero, api.OpSome} {
		for at := 2; at < 5; at++ {
			for _, target := range []int{0, 1, 2, 3, 4, 5, 6, 7, 8, 255, 256, 4095, 4096, 32768, 65535} {
				p := whole(exits(8))
				p.Funcs = []api.Func{{Begin: 0, End: 2}, {Begin: 2, End: 6}, {Begin: 6, End: 8}}
				p.Code[at] = coded(t, api.Instr{Op: op, Imm: target})
				if 2 <= target && target < 6 {
					fine(t, p)
				} else {
					wrong(t, p, at, api.ErrTarget)
				}
			}
		}
	}
}

// TestTargetsAtTheLimit: Q1: targets over the whole code.
func TestTargetsAtTheLimit(t *testing.T) {
	p := whole(exits(api.MaxCode))
	p.Code[0] = coded(t, api.Instr{Op: api.OpJump, Imm: api.MaxCode - 1})
	p.Code[api.MaxCode-1] = coded(t, api.Instr{Op: api.OpJump})
	p.Code[7] = coded(t, api.Instr{Op: api.OpSome, A: 15, Imm: 7})
	fine(t, p)
	p.Code[api.MaxCode-1] = coded(t, api.Instr{Op: api.OpJump, Imm: api.MaxCode})
	wrong(t, p, api.MaxCode-1, api.ErrTarget)
	p.Code[0] = coded(t, api.Instr{Op: api.OpJump, Imm: 65535})
	wrong(t, p, 0, api.ErrTarget)
}

// TestNames: Q1: functions of a Call or Spawn and tables of a Select, there and not there.
func TestNames(t *testing.T) {
	for _, count := range []int{1, 2, 5, api.MaxFuncs} {
		for _, imm := range []int{0, 1, 2, 4, 5, 6, 255, 256, 257, 65535} {
			for _, op := range []int{api.OpCall, api.OpSpawn} {
				p := exits(count)
				p.Code = append(p.Code, p.Code[0])
				p.Funcs[count-1].End++
				p.Code[count-1] = coded(t, api.Instr{Op: op, Imm: imm})
				if imm < count {
					fine(t, p)
				} else {
					wrong(t, p, count-1, api.ErrFunc)
				}
			}
			p := one(t, "nop", "select r15 "+number(imm), "exit")
			p.Tables = make([]api.CaseTable, count)
			if imm < count {
				fine(t, p)
			} else {
				wrong(t, p, 1, api.ErrTable)
			}
		}
	}
	wrong(t, one(t, "select r0 0", "exit"), 0, api.ErrTable)
}

// TestLastWords: Q1: of all operations the ending ones alone may be a function's last word, and every one may stand ahead.
func TestLastWords(t *testing.T) {
	for op := api.OpNop; op < api.Ops; op++ {
		w := coded(t, api.Instr{Op: op})
		p := whole(api.Program{Code: []uint32{w}, Tables: make([]api.CaseTable, 1)})
		q := whole(api.Program{Code: []uint32{0x01000000, w, 0x18000000}, Tables: make([]api.CaseTable, 1)})
		fine(t, q)
		q.Funcs = []api.Func{{Begin: 0, End: 2}, {Begin: 2, End: 3}}
		target := op == api.OpJump || op == api.OpZero || op == api.OpSome
		switch op {
		case api.OpJump, api.OpRet, api.OpExit, api.OpTrap:
			fine(t, p)
			fine(t, q)
		default:
			wrong(t, p, 0, api.ErrOut)
			wrong(t, q, 1, api.ErrOut)
		}
		if target {
			// Its target 0 is no word of the second function.
			q.Funcs = []api.Func{{Begin: 0, End: 1}, {Begin: 1, End: 3}}
			q.Code[0] = 0x18000000
			wrong(t, q, 1, api.ErrTarget)
		}
	}
	fine(t, one(t, "trap 65535"))
	fine(t, one(t, "trap 0"))
}

// TestWhichIsToldOfAWord: Q1: ErrWord, ErrTarget, ErrFunc and ErrTable come ahead of ErrOut of the same word.
func TestWhichIsToldOfAWord(t *testing.T) {
	wrong(t, whole(api.Program{Code: []uint32{noOp}}), 0, api.ErrWord)
	wrong(t, one(t, "zero r1 1"), 0, api.ErrTarget)
	wrong(t, one(t, "some r1 1"), 0, api.ErrTarget)
	wrong(t, one(t, "jump 1"), 0, api.ErrTarget)
	wrong(t, one(t, "call 1"), 0, api.ErrFunc)
	wrong(t, one(t, "spawn r1 1"), 0, api.ErrFunc)
	wrong(t, one(t, "select r1 0"), 0, api.ErrTable)
	wrong(t, one(t, "zero r1 0"), 0, api.ErrOut)
	wrong(t, one(t, "some r1 0"), 0, api.ErrOut)
	wrong(t, one(t, "call 0"), 0, api.ErrOut)
	wrong(t, one(t, "spawn r1 0"), 0, api.ErrOut)
	p := one(t, "select r1 0")
	p.Tables = make([]api.CaseTable, 1)
	wrong(t, p, 0, api.ErrOut)
}

// TestWhichWordIsTold: Q1: the first word that is wrong, whatever is wrong with later ones, of its own function or another one.
func TestWhichWordIsTold(t *testing.T) {
	bad := []struct {
		w uint32
		e api.Errno
	}{
		{noField, api.ErrWord}, {0x1100FFFF, api.ErrTarget}, {0x12F00009, api.ErrTarget}, {0x14000003, api.ErrFunc}, {0x16100003, api.ErrFunc}, {0x22100000, api.ErrTable},
	}
	for _, a := range bad {
		for _, b := range bad {
			p := whole(exits(6))
			p.Funcs = []api.Func{{Begin: 0, End: 3}, {Begin: 3, End: 6}}
			p.Code[1], p.Code[2] = a.w, b.w
			wrong(t, p, 1, a.e)
			p.Code[1], p.Code[2], p.Code[4] = 0x18000000, a.w, b.w
			wrong(t, p, 2, a.e)
			p.Code[2] = 0x01000000
			wrong(t, p, 2, api.ErrOut)
			p.Code[2], p.Code[5] = 0x18000000, a.w
			wrong(t, p, 4, b.e)
		}
	}
}

// TestWhichListIsTold: Q1: functions come ahead of tables, and tables ahead of words, whatever their places.
func TestWhichListIsTold(t *testing.T) {
	badTable := []api.CaseTable{{Cases: []api.Case{{Val: 16}}}}
	for _, w := range []uint32{noOp, 0x11000005, 0x14000005, 0x22000005, 0x01000000} {
		p := whole(api.Program{Code: []uint32{w, w}, Tables: badTable})
		wrong(t, p, 0, api.ErrTable)
		p.Tables = append([]api.CaseTable{{}, {}, {}}, badTable...)
		wrong(t, p, 3, api.ErrTable)
		p.Funcs[0].End = 1
		wrong(t, p, 1, api.ErrFunc)
		p.Funcs = nil
		wrong(t, p, 0, api.ErrFunc)
		p.Funcs = []api.Func{{Begin: 0, End: 3}}
		wrong(t, p, 0, api.ErrFunc)
	}
}

// TestWordsThatCannotBeComeTo: Q1: they are looked at as all others.
func TestWordsThatCannotBeComeTo(t *testing.T) {
	fine(t, one(t, "exit", "call 0", "exit"))
	wrong(t, one(t, "exit", "call 1", "exit"), 1, api.ErrFunc)
	wrong(t, one(t, "exit", "jump 3", "exit"), 1, api.ErrTarget)
	wrong(t, one(t, "jump 0", "select r1 0", "exit"), 1, api.ErrTable)
	wrong(t, one(t, "jump 0", "nop"), 1, api.ErrOut)
	p := one(t, "ret", "nop", "ret")
	p.Code[1] = noOp
	wrong(t, p, 1, api.ErrWord)
}
