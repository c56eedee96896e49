package step

import "rota/api"

// shiftMask is the bits of a number by which something is moved: more than 63 places there are not.
const shiftMask = 1<<6 - 1

// trap is what a goroutine wants that did something wrong.
func trap(why api.Trap) api.Want { return api.Want{Op: api.OpTrap, Trap: why} }

// traps tells whether an instruction traps, and what it wants then.
func traps(p api.Program, c api.Context, i api.Instr) (api.Want, bool) {
	switch {
	case i.Op == api.OpTrap:
		return api.Want{Op: api.OpTrap, Trap: api.TrapUser, Code: i.Imm}, true
	case (i.Op == api.OpDiv || i.Op == api.OpRem) && c.Regs[i.C] == 0:
		return trap(api.TrapDivide), true
	case i.Op == api.OpCall && len(c.Calls) >= api.MaxCalls:
		return trap(api.TrapCalls), true
	case i.Op == api.OpCall && !hasFunc(p, i.Imm):
		return trap(api.TrapWord), true
	}
	return api.Want{}, false
}

// jumps tells whether a Jump, Zero or Some goes on at its number.
func jumps(c api.Context, i api.Instr) bool {
	switch i.Op {
	case api.OpZero:
		return c.Regs[i.A] == 0
	case api.OpSome:
		return c.Regs[i.A] != 0
	}
	return true
}

// returned is a context behind a Ret; without calls there is nowhere to go, and the goroutine ends.
func returned(c api.Context) (api.Context, api.Want) {
	last := len(c.Calls) - 1
	if last < 0 {
		return c, api.Want{Op: api.OpExit}
	}
	c.Pc, c.Calls = c.Calls[last], c.Calls[:last]
	return c, api.Want{}
}

// asked is what an instruction wants that its domain must do. A field that it has not is 0, so that register 0 is looked at there.
func asked(c api.Context, i api.Instr) api.Want {
	if i.Op == api.OpExit || i.Op == api.OpYield {
		return api.Want{Op: i.Op}
	}
	return api.Want{Op: i.Op, Instr: i, X: c.Regs[i.A], Y: c.Regs[i.B], Z: c.Regs[i.C]}
}

// reckons tells whether an operation puts into its register a what comes of registers and its number alone.
func reckons(op int) bool { return api.OpSet <= op && op <= api.OpEqual }

// reckon is what an operation that reckons puts into its register a. It does not divide by 0: that is a trap.
func reckon(i api.Instr, regs [api.Registers]int64) int64 {
	a, b, c := regs[i.A], regs[i.B], regs[i.C]
	switch i.Op {
	case api.OpSet:
		return int64(i.Imm)
	case api.OpHigh:
		return a<<16 + int64(i.Imm)
	case api.OpMove:
		return b
	case api.OpAdd:
		return b + c
	case api.OpSub:
		return b - c
	case api.OpMul:
		return b * c
	case api.OpDiv:
		return b / c
	case api.OpRem:
		return b % c
	case api.OpAnd:
		return b & c
	case api.OpOr:
		return b | c
	case api.OpXor:
		return b ^ c
	case api.OpShl:
		return b << (uint64(c) & shiftMask)
	case api.OpShr:
		return b >> (uint64(c) & shiftMask)
	case api.OpLess:
		return number(b < c)
	default: // OpEqual, the last of them
		return number(b == c)
	}
}

// number is a truth as registers hold it.
func number(holds bool) int64 {
	if holds {
		return 1
	}
	return 0
}
