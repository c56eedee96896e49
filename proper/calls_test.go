package proper_test

import (
	"testing"

	"rota/api"
)

// TestCallsExamples: Q4, Q5: the chapter's examples.
func TestCallsExamples(t *testing.T) {
	p := one(t, "call 0", "ret")
	deep(t, p, 0, -1)
	calls(t, p, 0, 0)
	p = program(t, "func f", "call 1", "ret", "func g", "spawn r1 0", "exit")
	calls(t, p, 0, 0, 1)
	calls(t, p, 1, 1)
	spawns(t, p, 0, 0, 1)
	spawns(t, p, 1, 0, 1)
	deep(t, p, 0, 1)
	deep(t, p, 1, 0)
}

// TestNoCalls: Q4, Q5: one that calls nobody tells itself alone, and is 0 deep.
func TestNoCalls(t *testing.T) {
	p := program(t, "func f", "exit", "func g", "jump 1", "func h", "nop", "ret")
	for f := range p.Funcs {
		calls(t, p, f, f)
		spawns(t, p, f, f)
		deep(t, p, f, 0)
	}
}

// TestSpawns: Q4, Q5: a Spawn counts with spawned alone, Calls with and without; spawns that come round have a bound.
func TestSpawns(t *testing.T) {
	p := program(t,
		"func a", "spawn r1 b", "call c", "exit",
		"func b", "call d", "ret",
		"func c", "spawn r1 a", "spawn r2 e", "ret",
		"func d", "spawn r1 d", "ret",
		"func e", "call b", "exit")
	calls(t, p, 0, 0, 2)
	calls(t, p, 1, 1, 3)
	calls(t, p, 2, 2)
	calls(t, p, 3, 3)
	calls(t, p, 4, 1, 3, 4)
	spawns(t, p, 0, 0, 1, 2, 3, 4)
	spawns(t, p, 1, 1, 3)
	spawns(t, p, 2, 0, 1, 2, 3, 4)
	spawns(t, p, 3, 3)
	spawns(t, p, 4, 1, 3, 4)
	for f, want := range []int{1, 1, 0, 0, 2} {
		deep(t, p, f, want)
	}
}

// TestCallsThatCannotBeComeTo: Q4, Q5: they count for nothing, be they wherever.
func TestCallsThatCannotBeComeTo(t *testing.T) {
	p := program(t,
		"func a", "jump 2", "call a", "call b", "exit", "call c", "exit",
		"func b", "ret", "call a", "spawn r1 c", "ret",
		"func c", "zero r1 13", "exit", "jump 13", "call b", "exit")
	calls(t, p, 0, 0, 1)
	spawns(t, p, 0, 0, 1)
	calls(t, p, 1, 1)
	spawns(t, p, 1, 1)
	calls(t, p, 2, 1, 2)
	for f, want := range []int{1, 0, 1} {
		deep(t, p, f, want)
	}
}

// TestCallsBehindCalls: Q4, Q5: a Call that stands behind others is come to, and the deepest of them tells, first, last or between.
func TestCallsBehindCalls(t *testing.T) {
	p := program(t,
		"func a", "call e", "call b", "call e", "call e", "exit",
		"func b", "call c", "call e", "ret",
		"func c", "call e", "call d", "ret",
		"func d", "call e", "ret",
		"func e", "exit")
	for f, want := range []int{4, 3, 2, 1, 0} {
		deep(t, p, f, want)
	}
	calls(t, p, 0, 0, 1, 2, 3, 4)
	calls(t, p, 2, 2, 3, 4)
}

// TestRounds: Q5: those that come to themselves, and all who call such a one; not those that are called from a round and leave it.
func TestRounds(t *testing.T) {
	p := program(t,
		"func a", "call b", "ret",
		"func b", "call a", "ret",
		"func c", "call d", "call b", "ret",
		"func d", "call e", "ret",
		"func e", "exit",
		"func f", "call g", "ret",
		"func g", "call h", "call d", "ret",
		"func h", "zero r1 17", "call f", "ret", "jump 17",
		"func i", "call d", "spawn r1 i", "spawn r1 a", "exit",
		"func j", "some r1 24", "call j", "exit", "exit",
		"func k", "call d", "call j", "exit")
	for f, want := range []int{-1, -1, -1, 1, 0, -1, -1, -1, 2, -1, -1} {
		deep(t, p, f, want)
	}
	calls(t, p, 0, 0, 1)
	calls(t, p, 1, 0, 1)
	calls(t, p, 2, 0, 1, 2, 3, 4)
	calls(t, p, 7, 3, 4, 5, 6, 7)
	calls(t, p, 8, 3, 4, 8)
	spawns(t, p, 8, 0, 1, 3, 4, 8)
	calls(t, p, 9, 9)
}

// chain is functions each of which calls the next ones, so many of them as there are, up to width.
func chain(t *testing.T, count, width int) api.Program {
	t.Helper()
	var p api.Program
	for f := range count {
		begin := len(p.Code)
		for g := f + 1; g <= f+width && g < count; g++ {
			p.Code = append(p.Code, coded(t, api.Instr{Op: api.OpCall, Imm: g}))
		}
		p.Code = append(p.Code, 0x15000000)
		p.Funcs = append(p.Funcs, api.Func{Begin: begin, End: len(p.Code)})
	}
	return p
}

// TestChains: Q4, Q5: MaxFuncs functions that call one another in a row, by one way and by very many.
func TestChains(t *testing.T) {
	for _, width := range []int{1, 2, 15} {
		p := chain(t, api.MaxFuncs, width)
		for _, f := range []int{0, 1, 100, 254, 255} {
			deep(t, p, f, api.MaxFuncs-1-f)
			calls(t, p, f, upTo(api.MaxFuncs)[f:]...)
		}
		// The last one comes round to the one in the middle: all that are told of those ahead are endless.
		p.Code = append(p.Code, 0x15000000)
		p.Funcs[255].End++
		p.Code[len(p.Code)-2] = coded(t, api.Instr{Op: api.OpCall, Imm: 128})
		for _, f := range []int{0, 127, 128, 200, 255} {
			deep(t, p, f, -1)
		}
		calls(t, p, 255, upTo(api.MaxFuncs)[128:]...)
		calls(t, p, 3, upTo(api.MaxFuncs)[3:]...)
	}
}

// TestBackwardChain: Q4, Q5: calls of lesser numbers are told rising too.
func TestBackwardChain(t *testing.T) {
	var p api.Program
	for f := range 100 {
		p.Code = append(p.Code, coded(t, api.Instr{Op: api.OpCall, Imm: max(0, f-1)}), 0x15000000)
		p.Funcs = append(p.Funcs, api.Func{Begin: 2 * f, End: 2*f + 2})
	}
	p.Code[0] = 0x01000000
	for f := range 100 {
		deep(t, p, f, f)
		calls(t, p, f, upTo(f+1)...)
	}
	p.Code[0] = coded(t, api.Instr{Op: api.OpSpawn, A: 3, Imm: 99})
	spawns(t, p, 0, upTo(100)...)
	calls(t, p, 0, 0)
	deep(t, p, 99, 99)
}
