package step_test

import (
	"math"
	"slices"
	"testing"

	"rota/api"
	"rota/step"
	"rota/word"
)

// answers asks for a context behind an answer; what is handed in must be left as it was.
func answers(t *testing.T, c api.Context, i api.Instr, v, ok int64, want api.Context) {
	t.Helper()
	before := cloned(c)
	if d := step.Answer(c, i, v, ok); !same(d, want) {
		t.Errorf("Answer(%+v, %+v, %d, %d): %+v, not %+v", c, i, v, ok, d, want)
	}
	if !same(c, before) {
		t.Errorf("Answer(%+v, %+v, %d, %d) changed the context: %+v", before, i, v, ok, c)
	}
}

// modelAnswer is the document's words: which registers get what, by the operation's name.
func modelAnswer(c api.Context, i api.Instr, v, ok int64) api.Context {
	name, _ := word.Name(i.Op)
	field := func(n int) int { return (n%16 + 16) % 16 }
	switch {
	case slices.Contains([]string{"spawn", "make", "len", "cap", "select", "load", "swap", "fetch", "after", "every", "stop"}, name):
		return with(c, field(i.A), v)
	case slices.Contains([]string{"recv", "input", "get"}, name):
		return with(with(c, field(i.A), v), field(i.B), ok)
	case name == "put":
		return with(c, field(i.C), v)
	}
	return c
}

// TestAnswer: E3: every operation, and numbers that are none, with registers that differ, are one, and stand at the ends.
func TestAnswer(t *testing.T) {
	for op := -3; op <= api.Ops+3; op++ {
		for _, r := range [][3]int{{1, 2, 3}, {3, 2, 1}, {0, 15, 7}, {15, 0, 0}, {4, 4, 4}, {4, 4, 5}, {0, 0, 0}} {
			for _, values := range [][2]int64{{9, 1}, {0, 0}, {-1, 0}, {math.MinInt64, math.MaxInt64}, {5, -1}} {
				i := api.Instr{Op: op, A: r[0], B: r[1], C: r[2]}
				answers(t, at(3, 5, 6), i, values[0], values[1], modelAnswer(at(3, 5, 6), i, values[0], values[1]))
			}
		}
	}
	for _, op := range []int{math.MaxInt, math.MinInt, 1<<32 + api.OpRecv, 256 + api.OpMake, -api.OpRecv} {
		answers(t, at(3, 5), api.Instr{Op: op, A: 1, B: 2, C: 3}, 9, 1, at(3, 5))
	}
}

// TestAnswerIntoOne: E3: where the two registers of recv, input and get are one, ok is there.
func TestAnswerIntoOne(t *testing.T) {
	for _, op := range []int{api.OpRecv, api.OpInput, api.OpGet} {
		for r := range api.Registers {
			answers(t, at(0), api.Instr{Op: op, A: r, B: r}, 9, 1, with(at(0), r, 1))
			answers(t, at(0), api.Instr{Op: op, A: r, B: r, C: r}, 9, -1, with(at(0), r, -1))
			// They are one by their lowest four bits, too.
			answers(t, at(0), api.Instr{Op: op, A: r + 16, B: r - 16}, 9, 0, with(at(0), r, 0))
		}
	}
}

// TestAnswerOfOddRegisters: E3: registers above 15 or below 0 count by their lowest four bits.
func TestAnswerOfOddRegisters(t *testing.T) {
	for n, r := range map[int]int{
		16: 0, 17: 1, 31: 15, 32: 0, 255: 15, 256: 0, 1 << 32: 0, 1<<32 + 3: 3, math.MaxInt: 15, math.MaxInt - 15: 0,
		-1: 15, -2: 14, -15: 1, -16: 0, -17: 15, -32: 0, math.MinInt: 0, math.MinInt + 5: 5,
	} {
		for _, op := range []int{api.OpSpawn, api.OpMake, api.OpLen, api.OpCap, api.OpSelect, api.OpLoad, api.OpSwap, api.OpFetch, api.OpAfter, api.OpEvery, api.OpStop} {
			answers(t, at(0), api.Instr{Op: op, A: n, B: math.MaxInt, C: math.MinInt}, 9, 1, with(at(0), r, 9))
		}
		for _, op := range []int{api.OpRecv, api.OpInput, api.OpGet} {
			answers(t, at(0), api.Instr{Op: op, A: n, B: 6, C: -7}, 9, 1, with(with(at(0), r, 9), 6, 1))
			answers(t, at(0), api.Instr{Op: op, A: 6, B: n, C: -7}, 9, 1, with(with(at(0), 6, 9), r, 1))
		}
		answers(t, at(0), api.Instr{Op: api.OpPut, A: -1, B: 99, C: n}, 9, 1, with(at(0), r, 9))
		answers(t, at(0), api.Instr{Op: api.OpSend, A: n, B: n, C: n, Imm: n}, 9, 1, at(0))
	}
}

// TestAnswerOfOddContexts: E3: all but registers stays, whatever it is: a context need not be one that a program comes to.
func TestAnswerOfOddContexts(t *testing.T) {
	i := api.Instr{Op: api.OpRecv, A: 1, B: 2, C: 3}
	for _, pc := range []int{-1, 0, 4096, math.MaxInt, math.MinInt} {
		for _, calls := range [][]int{nil, {}, {-1}, {math.MinInt, math.MaxInt}, many(64, 1), many(1000, 1)} {
			answers(t, at(pc, calls...), i, 9, 1, with(with(at(pc, calls...), 1, 9), 2, 1))
			answers(t, at(pc, calls...), api.Instr{}, 9, 1, at(pc, calls...))
		}
	}
}
