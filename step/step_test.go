package step_test

import (
	"math"
	"testing"

	"rota/api"
	"rota/step"
	"rota/word"
)

// TestExamples: the chapter's examples.
func TestExamples(t *testing.T) {
	c := with(with(at(0), 1, 5), 2, 7)
	goes(t, one(t, "sub r1 r1 r2", "exit"), c, to(with(c, 1, -2), 1))
	traps(t, one(t, "div r1 r1 r3", "exit"), with(c, 3, 0), api.TrapDivide)

	i := api.Instr{Op: api.OpRecv, A: 1, B: 2, C: 3}
	c = with(c, 3, 4)
	steps(t, one(t, "recv r1 r2 r3", "exit"), c, env(), to(c, 1), api.Want{Op: api.OpRecv, Instr: i, X: 5, Y: 7, Z: 4})
	if d := step.Answer(to(c, 1), i, 9, 1); !same(d, to(with(with(c, 1, 9), 2, 1), 1)) {
		t.Errorf("Answer: %+v", d)
	}

	c = with(at(0), 1, 1)
	goes(t, one(t, "high r1 65535", "exit"), c, to(with(c, 1, 131071), 1))
	c = with(with(at(0), 2, -8), 3, 65)
	goes(t, one(t, "shr r1 r2 r3", "exit"), c, to(with(c, 1, -4), 1))
	steps(t, one(t, "ret"), at(0), env(), at(1), api.Want{Op: api.OpExit})
}

// TestBegin: E1: each function, with the registers that are handed in, and no calls.
func TestBegin(t *testing.T) {
	p := program(t, "func f", "nop", "exit", "func g", "exit", "func h", "nop", "nop", "exit")
	for f, pc := range []int{0, 2, 3} {
		if c, e := step.Begin(p, f, numbered()); !same(c, at(pc)) || e != api.OK {
			t.Errorf("Begin of %d: %+v, %d", f, c, e)
		}
	}
	ends := [api.Registers]int64{0: math.MinInt64, 7: -1, 15: math.MaxInt64}
	if c, e := step.Begin(p, 1, ends); !same(c, api.Context{Pc: 2, Regs: ends}) || e != api.OK {
		t.Errorf("Begin: %+v, %d", c, e)
	}
}

// TestBeginWrong: E1, R2: a function that there is not: ErrArg, and zeros beside it.
func TestBeginWrong(t *testing.T) {
	for _, p := range []api.Program{{}, one(t, "exit"), {Code: []uint32{noOp}}, {Funcs: []api.Func{{}, {}, {}}}} {
		count := len(p.Funcs)
		for _, f := range append(noPlaces(count), math.MaxInt-1, math.MinInt+1) {
			if c, e := step.Begin(p, f, numbered()); !same(c, api.Context{}) || e != api.ErrArg {
				t.Errorf("Begin of %d of %d functions: %+v, %d", f, count, c, e)
			}
		}
	}
}

// TestBeginOfOddFunctions: E1: of a function that may not be it is its Begin, whatever that is: no other thing is asked there.
func TestBeginOfOddFunctions(t *testing.T) {
	p := api.Program{Funcs: []api.Func{{Begin: -5, End: 2}, {Begin: math.MaxInt, End: math.MinInt}, {Begin: 7, End: 7}, {Begin: math.MinInt}}}
	for f, fn := range p.Funcs {
		c, e := step.Begin(p, f, numbered())
		if !same(c, at(fn.Begin)) || e != api.OK {
			t.Errorf("Begin of %+v: %+v, %d", fn, c, e)
		}
		traps(t, p, c, api.TrapWord)
	}
}

// TestCost: E1: of every operation what the document's table tells; it hangs on the word alone.
func TestCost(t *testing.T) {
	dear := map[string]int{
		"mul": 3, "div": 8, "rem": 8, "call": 2, "ret": 2, "spawn": 4, "make": 4, "send": 2, "recv": 2, "close": 2, "select": 4,
		"lock": 2, "unlock": 2, "rlock": 2, "runlock": 2, "wadd": 2, "wdone": 2, "wwait": 2, "cwait": 3, "signal": 2, "broadcast": 3,
		"acquire": 2, "release": 2, "load": 2, "store": 2, "swap": 3, "fetch": 3, "input": 2, "output": 2, "put": 2, "get": 2,
		"after": 3, "every": 3, "stop": 2,
	}
	for op := api.OpNop; op < api.Ops; op++ {
		name, _ := word.Name(op)
		want, there := dear[name]
		if !there {
			want = 1
		}
		p := api.Program{Code: []uint32{noOp, coded(t, api.Instr{Op: op}), noField}}
		costs(t, p, api.Context{Pc: 1}, want)
		costs(t, p, at(1, many(64, -3)...), want)
	}
}

// TestCostOfNone: E1: 1, where there is no next instruction.
func TestCostOfNone(t *testing.T) {
	div := coded(t, api.Instr{Op: api.OpDiv, A: 1, B: 2, C: 3})
	for _, p := range []api.Program{{}, {Code: []uint32{div}}, {Code: []uint32{div, div, div}}} {
		for _, pc := range noPlaces(len(p.Code)) {
			costs(t, p, at(pc), 1)
		}
	}
	for _, w := range []uint32{noOp, noField, 0xFFFFFFFF, div | 1<<15, uint32(api.Ops) << 24} {
		costs(t, api.Program{Code: []uint32{div, w, div}}, at(1), 1)
	}
}

// TestNoNextInstruction: E2: without a word, or with one that Decode refuses, it traps, whatever the context and the program are.
func TestNoNextInstruction(t *testing.T) {
	add := coded(t, api.Instr{Op: api.OpAdd, A: 1, B: 2, C: 3})
	for _, p := range []api.Program{{}, {Code: []uint32{add}}, {Code: []uint32{add, add}, Funcs: []api.Func{{Begin: 0, End: 2}}}} {
		for _, pc := range noPlaces(len(p.Code)) {
			traps(t, p, at(pc), api.TrapWord)
			traps(t, p, at(pc, 0, 1), api.TrapWord)
			traps(t, p, at(pc, many(70, 0)...), api.TrapWord)
		}
	}
	for _, w := range []uint32{noOp, noField, 0xFFFFFFFF, add | 1<<4, add | 1<<15, uint32(api.Ops) << 24, uint32(api.OpRet)<<24 | 1, uint32(api.OpTrap)<<24 | 1<<20} {
		traps(t, api.Program{Code: []uint32{add, w, add}}, at(1, 2), api.TrapWord)
	}
}

// TestLastWord: E2: the word at the code's end is one still; it goes on behind it, where there is none.
func TestLastWord(t *testing.T) {
	p := one(t, "exit", "nop", "set r1 7")
	goes(t, p, at(2), to(with(at(2), 1, 7), 3))
	traps(t, p, at(3), api.TrapWord)
}

// TestReckoning: E2: what each operation puts into its register, with r1 ahead of it, r2 and r3; at the edges, too.
func TestReckoning(t *testing.T) {
	const least, most = math.MinInt64, math.MaxInt64
	for _, c := range []struct {
		line                 string
		r1, r2, r3, r1Behind int64
	}{
		{"set r1 0", 9, 0, 0, 0}, {"set r1 32767", 9, 0, 0, 32767}, {"set r1 -32768", 9, 0, 0, -32768}, {"set r1 -1", 9, 0, 0, -1},
		{"high r1 0", 1, 0, 0, 65536}, {"high r1 1", 0, 0, 0, 1}, {"high r1 65535", 0, 0, 0, 65535}, {"high r1 32768", 2, 0, 0, 163840},
		{"high r1 65535", -1, 0, 0, -1}, {"high r1 0", -1, 0, 0, -65536}, {"high r1 5", -2, 0, 0, -131067}, {"high r1 3", 1 << 48, 0, 0, 3},
		{"high r1 7", 1 << 47, 0, 0, least + 7}, {"high r1 65535", most, 0, 0, -1}, {"high r1 65535", least, 0, 0, 65535}, {"high r1 1", -1<<48 - 1, 0, 0, -65535},
		{"move r1 r2", 9, -4, 0, -4}, {"move r1 r2", 9, least, 0, least},
		{"add r1 r2 r3", 9, 2, 3, 5}, {"add r1 r2 r3", 9, most, 1, least}, {"add r1 r2 r3", 9, least, -1, most}, {"add r1 r2 r3", 9, least, least, 0},
		{"sub r1 r2 r3", 9, 2, 3, -1}, {"sub r1 r2 r3", 9, least, 1, most}, {"sub r1 r2 r3", 9, 0, least, least}, {"sub r1 r2 r3", 9, most, -1, least},
		{"mul r1 r2 r3", 9, -2, 3, -6}, {"mul r1 r2 r3", 9, 1 << 32, 1 << 32, 0}, {"mul r1 r2 r3", 9, least, -1, least}, {"mul r1 r2 r3", 9, most, 2, -2},
		{"div r1 r2 r3", 9, 7, 2, 3}, {"div r1 r2 r3", 9, -7, 2, -3}, {"div r1 r2 r3", 9, 7, -2, -3}, {"div r1 r2 r3", 9, -7, -2, 3},
		{"div r1 r2 r3", 9, least, -1, least}, {"div r1 r2 r3", 9, least, 1, least}, {"div r1 r2 r3", 9, most, -1, -most}, {"div r1 r2 r3", 9, 0, -5, 0}, {"div r1 r2 r3", 9, most, least, 0},
		{"rem r1 r2 r3", 9, 7, 2, 1}, {"rem r1 r2 r3", 9, -7, 2, -1}, {"rem r1 r2 r3", 9, 7, -2, 1}, {"rem r1 r2 r3", 9, -7, -2, -1},
		{"rem r1 r2 r3", 9, least, -1, 0}, {"rem r1 r2 r3", 9, least, most, -1}, {"rem r1 r2 r3", 9, most, least, most}, {"rem r1 r2 r3", 9, 0, 3, 0},
		{"and r1 r2 r3", 9, 12, 10, 8}, {"and r1 r2 r3", 9, -1, least, least}, {"or r1 r2 r3", 9, 12, 10, 14}, {"or r1 r2 r3", 9, least, most, -1},
		{"xor r1 r2 r3", 9, 12, 10, 6}, {"xor r1 r2 r3", 9, -1, least, most},
		{"shl r1 r2 r3", 9, 5, 0, 5}, {"shl r1 r2 r3", 9, 5, 1, 10}, {"shl r1 r2 r3", 9, 5, 63, least}, {"shl r1 r2 r3", 9, 5, 64, 5}, {"shl r1 r2 r3", 9, 5, 65, 10},
		{"shl r1 r2 r3", 9, 5, -1, least}, {"shl r1 r2 r3", 9, 4, -1, 0}, {"shl r1 r2 r3", 9, 5, -64, 5}, {"shl r1 r2 r3", 9, 5, least, 5}, {"shl r1 r2 r3", 9, -1, 62, -1 << 62}, {"shl r1 r2 r3", 9, 5, 1 << 32, 5},
		{"shr r1 r2 r3", 9, -8, 0, -8}, {"shr r1 r2 r3", 9, -8, 1, -4}, {"shr r1 r2 r3", 9, -8, 63, -1}, {"shr r1 r2 r3", 9, -8, 64, -8}, {"shr r1 r2 r3", 9, -8, 65, -4},
		{"shr r1 r2 r3", 9, most, 62, 1}, {"shr r1 r2 r3", 9, most, 63, 0}, {"shr r1 r2 r3", 9, least, -1, -1}, {"shr r1 r2 r3", 9, 6, -63, 3}, {"shr r1 r2 r3", 9, -7, 1, -4}, {"shr r1 r2 r3", 9, 6, most, 0},
		{"less r1 r2 r3", 9, 1, 2, 1}, {"less r1 r2 r3", 9, 2, 2, 0}, {"less r1 r2 r3", 9, 3, 2, 0}, {"less r1 r2 r3", 9, least, most, 1}, {"less r1 r2 r3", 9, most, least, 0},
		{"less r1 r2 r3", 9, least, least, 0}, {"less r1 r2 r3", 9, least, least + 1, 1}, {"less r1 r2 r3", 9, most - 1, most, 1}, {"less r1 r2 r3", 9, -1, 0, 1},
		{"equal r1 r2 r3", 9, 2, 2, 1}, {"equal r1 r2 r3", 9, 2, 3, 0}, {"equal r1 r2 r3", 9, least, least, 1}, {"equal r1 r2 r3", 9, most, most, 1},
		{"equal r1 r2 r3", 9, least, most, 0}, {"equal r1 r2 r3", 9, 1, 1<<32 + 1, 0}, {"equal r1 r2 r3", 9, 0, least, 0},
	} {
		before := with(with(with(at(1, 8, 9), 1, c.r1), 2, c.r2), 3, c.r3)
		goes(t, one(t, "exit", c.line, "exit"), before, to(with(before, 1, c.r1Behind), 2))
	}
}

// TestNop: E2: nothing but the place is another one.
func TestNop(t *testing.T) {
	goes(t, one(t, "nop", "nop", "exit"), at(1, 4, 5), at(2, 4, 5))
}

// TestReadAndWritten: E2: registers that are both read and written, and all of them, are read ahead of the write.
func TestReadAndWritten(t *testing.T) {
	for a := range api.Registers {
		for b := range api.Registers {
			goes(t, only(t, api.Instr{Op: api.OpMove, A: a, B: b}), at(0), to(with(at(0), a, int64(1000+b)), 1))
			for c := range api.Registers {
				rb, rc := int64(1000+b), int64(1000+c)
				for op, want := range map[int]int64{api.OpAdd: rb + rc, api.OpSub: rb - rc, api.OpMul: rb * rc, api.OpDiv: rb / rc, api.OpRem: rb % rc, api.OpXor: rb ^ rc} {
					goes(t, only(t, api.Instr{Op: op, A: a, B: b, C: c}), at(0), to(with(at(0), a, want), 1))
				}
			}
		}
		goes(t, only(t, api.Instr{Op: api.OpHigh, A: a, Imm: 2}), at(0), to(with(at(0), a, int64(1000+a)*65536+2), 1))
	}
}

// TestDivideByNothing: E2: div and rem by 0 trap, whatever is divided, and whichever registers these are; by nothing else.
func TestDivideByNothing(t *testing.T) {
	for _, op := range []int{api.OpDiv, api.OpRem} {
		for _, b := range edges() {
			p := only(t, api.Instr{Op: op, A: 1, B: 2, C: 3})
			traps(t, p, with(with(at(0, 6), 2, b), 3, 0), api.TrapDivide)
			if _, w := step.Step(p, with(with(at(0), 2, 0), 3, max(b, 1)), env()); w != (api.Want{}) {
				t.Errorf("0 by %d: %+v", max(b, 1), w)
			}
		}
		traps(t, only(t, api.Instr{Op: op, A: 4, B: 4, C: 4}), with(at(0), 4, 0), api.TrapDivide)
		traps(t, only(t, api.Instr{Op: op}), with(at(0), 0, 0), api.TrapDivide)
		traps(t, only(t, api.Instr{Op: op, C: 15}), with(at(0), 15, 0), api.TrapDivide)
	}
}

// TestJumps: E2: jump always, zero and some by what is in a alone; the target may be any word, and none.
func TestJumps(t *testing.T) {
	for _, imm := range []int{0, 1, 2, 5, 4095, 32768, 65535} {
		goes(t, only(t, api.Instr{Op: api.OpJump, Imm: imm}), at(0, 3), at(imm, 3))
		for _, n := range edges() {
			zero, some := 1, imm
			if n == 0 {
				zero, some = imm, 1
			}
			for _, a := range []int{0, 6, 15} {
				c := with(at(0, 3), a, n)
				goes(t, only(t, api.Instr{Op: api.OpZero, A: a, Imm: imm}), c, to(c, zero))
				goes(t, only(t, api.Instr{Op: api.OpSome, A: a, Imm: imm}), c, to(c, some))
			}
		}
	}
	// Jumped to a place where there is no word, it traps there, and not ahead of it.
	traps(t, only(t, api.Instr{Op: api.OpJump, Imm: 65535}), at(65535), api.TrapWord)
}

// TestCall: E2: the word behind is put behind the calls, with up to 63 of them; with 64 and more it traps.
func TestCall(t *testing.T) {
	p := program(t, "func f", "nop", "call g", "exit", "func g", "ret", "func h", "call f", "ret")
	for _, count := range []int{0, 1, 2, 31, 62, 63} {
		calls := many(count, 50)
		goes(t, p, at(1, calls...), at(3, append(many(count, 50), 2)...))
		goes(t, p, at(4, calls...), at(0, append(many(count, 50), 5)...))
	}
	for _, count := range []int{64, 65, 66, 127, 128, 1000} {
		traps(t, p, at(1, many(count, 50)...), api.TrapCalls)
	}
}

// TestCallOfNone: E2: a function that there is not: TrapWord, but TrapCalls ahead of it.
func TestCallOfNone(t *testing.T) {
	for _, imm := range []int{1, 2, 256, 32768, 65535} {
		p := only(t, api.Instr{Op: api.OpCall, Imm: imm})
		traps(t, p, at(0), api.TrapWord)
		traps(t, p, at(0, many(63, 0)...), api.TrapWord)
		traps(t, p, at(0, many(64, 0)...), api.TrapCalls)
		traps(t, p, at(0, many(65, 0)...), api.TrapCalls)
	}
	p := only(t, api.Instr{Op: api.OpCall})
	p.Funcs = nil
	traps(t, p, at(0), api.TrapWord)
}

// TestCallOfOddFunctions: E2: of a function that may not be it goes to its Begin, where there is no word.
func TestCallOfOddFunctions(t *testing.T) {
	for _, begin := range []int{-1, 1, 2, math.MaxInt, math.MinInt} {
		p := only(t, api.Instr{Op: api.OpCall})
		p.Funcs[0] = api.Func{Begin: begin}
		goes(t, p, at(0), at(begin, 1))
		traps(t, p, at(begin, 1), api.TrapWord)
	}
}

// TestRet: E2: it goes to the last of the calls, whatever that is, and that one goes; without calls the goroutine wants to end.
func TestRet(t *testing.T) {
	p := one(t, "nop", "ret")
	for _, last := range []int{0, 1, 2, 70, -1, math.MaxInt, math.MinInt} {
		goes(t, p, at(1, last), at(last))
		goes(t, p, at(1, 7, last), at(last, 7))
		for _, count := range []int{63, 64, 65, 1000} {
			goes(t, p, at(1, many(count, last)...), at(last, many(count, last)[:count-1]...))
		}
	}
	for _, calls := range [][]int{nil, {}, make([]int, 0, 4)} {
		steps(t, p, calling(at(1), calls...), env(), at(2), api.Want{Op: api.OpExit})
	}
}

// TestSelf: E2: the goroutine's handle; a generation at its greatest, and names that nobody has, which wrap.
func TestSelf(t *testing.T) {
	for _, c := range []struct {
		g    api.Gid
		want int64
	}{
		{api.Gid{Slot: 0, Gen: 1}, 1 << 32},
		{api.Gid{Slot: 3, Gen: 5}, 5<<32 + 3},
		{api.Gid{}, 0},
		{api.Gid{Slot: api.MaxGs - 1, Gen: 1}, 1<<32 + 4095},
		{api.Gid{Slot: 0, Gen: api.MaxGen}, (1<<31 - 1) << 32},
		{api.Gid{Slot: api.MaxGs - 1, Gen: api.MaxGen}, (1<<31-1)<<32 + 4095},
		{api.Gid{Slot: 1<<32 - 1, Gen: api.MaxGen}, math.MaxInt64},
		{api.Gid{Slot: 1, Gen: 1 << 31}, math.MinInt64 + 1},
		{api.Gid{Slot: 2, Gen: 1 << 32}, 2},
		{api.Gid{Slot: -1, Gen: 0}, -1},
		{api.Gid{Slot: -1, Gen: 1}, 1<<32 - 1},
		{api.Gid{Slot: 0, Gen: -1}, -1 << 32},
		{api.Gid{Slot: math.MaxInt, Gen: api.MaxGen}, -1<<32 - 1},
		{api.Gid{Slot: math.MinInt, Gen: math.MinInt}, math.MinInt64},
	} {
		for _, a := range []int{0, 1, 15} {
			e := api.Env{Clock: clock, Self: c.g}
			steps(t, only(t, api.Instr{Op: api.OpSelf, A: a}), at(0, 4), e, to(with(at(0, 4), a, c.want), 1), api.Want{})
		}
	}
}

// TestNow: E2: the clock's bits, above the greatest int64 too.
func TestNow(t *testing.T) {
	for clock, want := range map[uint64]int64{
		0: 0, 1: 1, 1 << 32: 1 << 32, math.MaxInt64: math.MaxInt64, 1 << 63: math.MinInt64, 1<<63 + 1: math.MinInt64 + 1,
		math.MaxUint64: -1, math.MaxUint64 - 1: -2,
	} {
		for _, a := range []int{0, 1, 15} {
			e := api.Env{Clock: clock, Self: api.Gid{Slot: 1, Gen: 2}}
			steps(t, only(t, api.Instr{Op: api.OpNow, A: a}), at(0, 4), e, to(with(at(0, 4), a, want), 1), api.Want{})
		}
	}
}

// TestAsks: E2: what is asked of the domain: the operation, the instruction, and what is in a, b and c; in register 0, where there is no such field.
func TestAsks(t *testing.T) {
	i := func(op, a, b, c, imm int) api.Instr { return api.Instr{Op: op, A: a, B: b, C: c, Imm: imm} }
	for _, c := range []struct {
		i       api.Instr
		x, y, z int64
	}{
		{i(api.OpSpawn, 1, 0, 0, 0), 1001, 1000, 1000},
		{i(api.OpSpawn, 15, 0, 0, 255), 1015, 1000, 1000},
		{i(api.OpSleep, 2, 0, 0, 0), 1002, 1000, 1000},
		{i(api.OpMake, 1, 2, 0, 0), 1001, 1002, 1000},
		{i(api.OpSend, 3, 4, 0, 0), 1003, 1004, 1000},
		{i(api.OpRecv, 1, 2, 3, 0), 1001, 1002, 1003},
		{i(api.OpClose, 5, 0, 0, 0), 1005, 1000, 1000},
		{i(api.OpLen, 1, 2, 0, 0), 1001, 1002, 1000},
		{i(api.OpCap, 6, 7, 0, 0), 1006, 1007, 1000},
		{i(api.OpSelect, 8, 0, 0, 9), 1008, 1000, 1000},
		{i(api.OpLock, 1, 0, 0, 0), 1001, 1000, 1000},
		{i(api.OpUnlock, 1, 0, 0, 0), 1001, 1000, 1000},
		{i(api.OpRLock, 1, 0, 0, 0), 1001, 1000, 1000},
		{i(api.OpRUnlock, 1, 0, 0, 0), 1001, 1000, 1000},
		{i(api.OpWAdd, 1, 2, 0, 0), 1001, 1002, 1000},
		{i(api.OpWDone, 1, 0, 0, 0), 1001, 1000, 1000},
		{i(api.OpWWait, 1, 0, 0, 0), 1001, 1000, 1000},
		{i(api.OpCWait, 1, 2, 0, 0), 1001, 1002, 1000},
		{i(api.OpSignal, 1, 0, 0, 0), 1001, 1000, 1000},
		{i(api.OpBroadcast, 1, 0, 0, 0), 1001, 1000, 1000},
		{i(api.OpAcquire, 1, 0, 0, 0), 1001, 1000, 1000},
		{i(api.OpRelease, 1, 0, 0, 0), 1001, 1000, 1000},
		{i(api.OpLoad, 1, 2, 0, 0), 1001, 1002, 1000},
		{i(api.OpStore, 1, 2, 0, 0), 1001, 1002, 1000},
		{i(api.OpSwap, 1, 2, 3, 0), 1001, 1002, 1003},
		{i(api.OpFetch, 1, 2, 3, 0), 1001, 1002, 1003},
		{i(api.OpInput, 1, 2, 0, 0), 1001, 1002, 1000},
		{i(api.OpOutput, 1, 0, 0, 0), 1001, 1000, 1000},
		{i(api.OpPut, 13, 14, 15, 0), 1013, 1014, 1015},
		{i(api.OpGet, 1, 2, 3, 0), 1001, 1002, 1003},
		{i(api.OpAfter, 1, 2, 3, 0), 1001, 1002, 1003},
		{i(api.OpEvery, 4, 4, 4, 0), 1004, 1004, 1004},
		{i(api.OpStop, 1, 0, 0, 0), 1001, 1000, 1000},
	} {
		p := api.Program{Code: []uint32{noOp, coded(t, c.i)}}
		steps(t, p, at(1, 5, 6), env(), at(2, 5, 6), api.Want{Op: c.i.Op, Instr: c.i, X: c.x, Y: c.y, Z: c.z})
		steps(t, p, at(1, many(70, 0)...), api.Env{}, at(2, many(70, 0)...), api.Want{Op: c.i.Op, Instr: c.i, X: c.x, Y: c.y, Z: c.z})
	}
}

// TestAsksAlone: E2: exit and yield want their operation alone, and the place is one more.
func TestAsksAlone(t *testing.T) {
	p := one(t, "yield", "exit", "nop")
	steps(t, p, at(0, 8), env(), at(1, 8), api.Want{Op: api.OpYield})
	steps(t, p, at(1, 8), env(), at(2, 8), api.Want{Op: api.OpExit})
	steps(t, p, at(1), env(), at(2), api.Want{Op: api.OpExit})
}

// TestTrap: E2: the instruction trap tells its code, and the context is as it was.
func TestTrap(t *testing.T) {
	for _, code := range []int{0, 1, 9, 255, 256, 32767, 32768, 65535} {
		for _, calls := range [][]int{nil, {4}, many(64, 0), many(70, 0)} {
			c := at(0, calls...)
			steps(t, only(t, api.Instr{Op: api.OpTrap, Imm: code}), c, env(), c, api.Want{Op: api.OpTrap, Trap: api.TrapUser, Code: code})
		}
	}
}
