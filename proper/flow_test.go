package proper_test

import (
	"math"
	"strconv"
	"testing"

	"rota/api"
)

func number(n int) string { return strconv.Itoa(n) }

// TestFlowExamples: Q2, Q3: the chapter's examples.
func TestFlowExamples(t *testing.T) {
	p := one(t, "jump 0")
	goesOn(t, p, 0, 0)
	reaches(t, p, 0, 0)
	p = one(t, "zero r1 0", "exit")
	goesOn(t, p, 0, 0, 1)
	goesOn(t, p, 1)
	reaches(t, p, 0, 0, 1)
}

// TestIn: Q2: of each word of functions of one word and of more, at their ends too.
func TestIn(t *testing.T) {
	p := whole(exits(7))
	p.Funcs = []api.Func{{Begin: 0, End: 1}, {Begin: 1, End: 4}, {Begin: 4, End: 5}, {Begin: 5, End: 7}}
	for at, f := range []int{0, 1, 1, 1, 2, 3, 3} {
		in(t, p, at, f)
	}
	p = whole(exits(api.MaxCode))
	in(t, p, 0, 0)
	in(t, p, api.MaxCode-1, 0)
	p = exits(api.MaxFuncs)
	for at := range p.Code {
		in(t, p, at, at)
	}
}

// TestNextOfEachOperation: Q2: of every operation, its number 3, at the word 1 of five.
func TestNextOfEachOperation(t *testing.T) {
	for op := api.OpNop; op < api.Ops; op++ {
		i := api.Instr{Op: op}
		switch op {
		case api.OpJump, api.OpZero, api.OpSome:
			i.Imm = 3
		}
		p := whole(exits(5))
		p.Tables = make([]api.CaseTable, 1)
		p.Code[1] = coded(t, i)
		switch op {
		case api.OpJump:
			goesOn(t, p, 1, 3)
		case api.OpZero, api.OpSome:
			goesOn(t, p, 1, 2, 3)
		case api.OpRet, api.OpExit, api.OpTrap:
			goesOn(t, p, 1)
		default:
			goesOn(t, p, 1, 2)
		}
	}
}

// TestNextOfTargets: Q2: jumps to the own word, to the function's first and last, and to the word behind, which is told once; rising, whichever comes first.
func TestNextOfTargets(t *testing.T) {
	p := program(t, "func f", "nop", "exit", "func g", "nop", "jump 4", "exit")
	for target, want := range map[int][]int{2: {2, 4}, 3: {3, 4}, 4: {4}} {
		p.Code[3] = coded(t, api.Instr{Op: api.OpJump, Imm: target})
		goesOn(t, p, 3, target)
		for _, op := range []int{api.OpZero, api.OpSome} {
			p.Code[3] = coded(t, api.Instr{Op: op, A: 15, Imm: target})
			goesOn(t, p, 3, want...)
		}
	}
	p = program(t, "func f", "zero r0 3", "nop", "nop", "jump 0", "func g", "trap 3")
	goesOn(t, p, 0, 1, 3)
	goesOn(t, p, 1, 2)
	goesOn(t, p, 2, 3)
	goesOn(t, p, 3, 0)
	goesOn(t, p, 4)
}

// TestReach: Q3: words that can't be come to are not told; those behind a Call, a Spawn and a Select are; other functions' never.
func TestReach(t *testing.T) {
	p := program(t,
		"func f", "jump 2", "nop", "call g", "spawn r1 h", "select r1 t", "ret", "nop", "jump 1",
		"func g", "exit", "jump 8",
		"func h", "some r1 12", "jump 10", "trap 1",
		"table t")
	reaches(t, p, 0, 0, 2, 3, 4, 5)
	reaches(t, p, 1, 8)
	reaches(t, p, 2, 10, 11, 12)
	// Back by a jump, to what stands ahead of it.
	p = one(t, "jump 4", "nop", "zero r1 1", "exit", "some r2 6", "jump 2", "jump 6", "nop", "exit")
	reaches(t, p, 0, 0, 1, 2, 3, 4, 5, 6)
	p = one(t, "jump 3", "exit", "jump 1", "jump 2")
	reaches(t, p, 0, 0, 1, 2, 3)
	reaches(t, one(t, "exit"), 0, 0)
	reaches(t, one(t, "zero r1 1", "jump 1", "exit"), 0, 0, 1)
}

// TestReachAtTheLimit: Q3: MaxCode words in a row, and each come to from the one behind it.
func TestReachAtTheLimit(t *testing.T) {
	p := whole(exits(api.MaxCode))
	reaches(t, p, 0, 0)
	for at := range api.MaxCode - 1 {
		p.Code[at] = 0x01000000
	}
	reaches(t, p, 0, upTo(api.MaxCode)...)
	p.Code[0] = coded(t, api.Instr{Op: api.OpJump, Imm: api.MaxCode - 1})
	for at := 1; at < api.MaxCode; at++ {
		p.Code[at] = coded(t, api.Instr{Op: api.OpJump, Imm: at - 1})
	}
	reaches(t, p, 0, upTo(api.MaxCode)...)
	p.Code[2000] = 0x18000000
	reaches(t, p, 0, append([]int{0}, upTo(api.MaxCode)[2000:]...)...)
}

// TestNoSuchWordOrFunction: Q1: ErrArg of places that are no words, and of numbers that are no functions.
func TestNoSuchWordOrFunction(t *testing.T) {
	p := program(t, "func f", "call g", "nop", "exit", "func g", "zero r1 3", "exit")
	for _, n := range []int{-1, -2, 5, 6, 256, 4096, 1 << 32, 1<<32 + 1, -1 << 32, math.MaxInt, math.MinInt} {
		untold(t, p, n, n, api.ErrArg)
	}
	// Words are counted by the code, and functions by theirs.
	untold(t, p, 5, 2, api.ErrArg)
	untold(t, p, -1, 4, api.ErrArg)
	in(t, p, 4, 1)
	reaches(t, p, 1, 3, 4)
	goesOn(t, p, 4)
	p = whole(exits(api.MaxCode))
	untold(t, p, api.MaxCode, 1, api.ErrArg)
	p = exits(api.MaxFuncs)
	untold(t, p, api.MaxFuncs, api.MaxFuncs, api.ErrArg)
}
