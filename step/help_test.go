package step_test

import (
	"math"
	"slices"
	"strings"
	"testing"

	"rota/api"
	"rota/listing"
	"rota/step"
	"rota/word"
)

// noOp and noField are words that Decode refuses.
const (
	noOp    uint32 = 0
	noField uint32 = 0x05120013
)

// clock is what the tests' domain tells, where nothing else is said.
const clock = 1<<40 + 7

// env is what an instruction sees of that domain.
func env() api.Env { return api.Env{Clock: clock, Self: api.Gid{Slot: 3, Gen: 5}} }

// program is the one of a text of those lines, whether or not it may be.
func program(t *testing.T, lines ...string) api.Program {
	t.Helper()
	p, e, n := listing.Parse(strings.Join(lines, "\n"))
	if e != api.OK {
		t.Fatalf("Parse(%q): %d, %d", lines, e, n)
	}
	return p
}

// one is a program of one function of those instructions' lines.
func one(t *testing.T, lines ...string) api.Program {
	t.Helper()
	return program(t, append([]string{"func f"}, lines...)...)
}

// only is a program of one word, that of an instruction, and of a function.
func only(t *testing.T, i api.Instr) api.Program {
	t.Helper()
	return api.Program{Code: []uint32{coded(t, i)}, Funcs: []api.Func{{Begin: 0, End: 1}}}
}

// coded is the word of an instruction.
func coded(t *testing.T, i api.Instr) uint32 {
	t.Helper()
	w, e := word.Encode(i)
	if e != api.OK {
		t.Fatalf("Encode(%+v): %d", i, e)
	}
	return w
}

// numbered is registers that differ, and none is 0.
func numbered() [api.Registers]int64 {
	var regs [api.Registers]int64
	for n := range regs {
		regs[n] = int64(1000 + n)
	}
	return regs
}

// at is a context at a place, with registers that differ, and those calls.
func at(pc int, calls ...int) api.Context {
	return api.Context{Pc: pc, Regs: numbered(), Calls: calls}
}

// with is a context with another number in a register.
func with(c api.Context, register int, n int64) api.Context {
	c.Regs[register] = n
	return c
}

// to is a context at another place.
func to(c api.Context, pc int) api.Context {
	c.Pc = pc
	return c
}

// calling is a context with other calls.
func calling(c api.Context, calls ...int) api.Context {
	c.Calls = calls
	return c
}

// same tells whether contexts are the same.
func same(a, b api.Context) bool {
	return a.Pc == b.Pc && a.Regs == b.Regs && slices.Equal(a.Calls, b.Calls)
}

// cloned is a context in new memory.
func cloned(c api.Context) api.Context {
	c.Calls = slices.Clone(c.Calls)
	return c
}

// steps asks for the context behind a step, and for what it wants; what is handed in must be left as it was.
func steps(t *testing.T, p api.Program, c api.Context, e api.Env, want api.Context, wants api.Want) {
	t.Helper()
	before := cloned(c)
	d, w := step.Step(p, c, e)
	if !same(d, want) || w != wants {
		t.Errorf("Step(%s, %+v, %+v):\n%+v, %+v, not\n%+v, %+v", brief(p, c.Pc), c, e, d, w, want, wants)
	}
	if !same(c, before) {
		t.Errorf("Step(%s, %+v, %+v) changed the context: %+v", brief(p, c.Pc), before, e, c)
	}
}

// goes asks for a step that wants nothing, in the tests' own domain.
func goes(t *testing.T, p api.Program, c, want api.Context) {
	t.Helper()
	steps(t, p, c, env(), want, api.Want{})
}

// traps asks for a step that traps: the context is as it was, and nothing but the trap is wanted.
func traps(t *testing.T, p api.Program, c api.Context, why api.Trap) {
	t.Helper()
	steps(t, p, c, env(), c, api.Want{Op: api.OpTrap, Trap: why})
}

// costs asks for what the next instruction costs.
func costs(t *testing.T, p api.Program, c api.Context, want int) {
	t.Helper()
	if got := step.Cost(p, c); got != want {
		t.Errorf("Cost(%s, %+v): %d, not %d", brief(p, c.Pc), c, got, want)
	}
}

// brief is a program's word as a test tells it.
func brief(p api.Program, pc int) string {
	if line, e := listing.Line(p, pc); e == api.OK {
		return line
	}
	if pc < 0 || pc >= len(p.Code) {
		return "no word"
	}
	if i, e := word.Decode(p.Code[pc]); e == api.OK {
		name, _ := word.Name(i.Op)
		return name
	}
	return "?"
}

// edges is numbers at which something may go wrong: the ends, those around 0, and those that have a whole half of their bits.
func edges() []int64 {
	return []int64{
		0, 1, 2, 3, 7, 8, 62, 63, 64, 65, 127, 128, 65535, 65536, 1<<31 - 1, 1 << 31, 1 << 32, 1<<32 + 1, 1<<47 + 5, 1 << 62, math.MaxInt64 - 1, math.MaxInt64,
		-1, -2, -3, -7, -8, -63, -64, -65, -65536, -1 << 31, -1<<31 - 1, -1 << 32, -1 << 62, math.MinInt64 + 1, math.MinInt64,
		0x5555555555555555, -0x5555555555555556,
	}
}

// noPlaces is places at which a code of so many words has none.
func noPlaces(count int) []int {
	return []int{-1, -2, count, count + 1, count + 1000, 1 << 32, -1 << 32, math.MaxInt, math.MinInt}
}

// many is so many calls, the last of which returns to the word last.
func many(count, last int) []int {
	var out []int
	for n := range count {
		out = append(out, 100+n)
	}
	if count > 0 {
		out[count-1] = last
	}
	return out
}
