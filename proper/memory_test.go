package proper_test

import (
	"slices"
	"sync"
	"testing"

	"rota/api"
	"rota/proper"
)

// rich is a program of which every call has much to tell.
func rich(t *testing.T) api.Program {
	t.Helper()
	return program(t,
		"table t default", "send r1 r2", "recv r3 r4 r5", "table u", "recv r1 r1 r1",
		"func f", "zero r1 2", "select r2 u", "call g", "spawn r1 h", "exit",
		"func g", "some r1 6", "call h", "ret",
		"func h", "jump 9", "ret")
}

// lists is all lists that are told of a program.
func lists(p api.Program) [][]int {
	var out [][]int
	for at := range p.Code {
		l, _ := proper.Next(p, at)
		out = append(out, l)
	}
	for f := range p.Funcs {
		reach, _ := proper.Reach(p, f)
		calls, _ := proper.Calls(p, f, false)
		spawns, _ := proper.Calls(p, f, true)
		out = append(out, reach, calls, spawns)
	}
	return out
}

// cloned is lists in new memory.
func cloned(all [][]int) [][]int {
	var out [][]int
	for _, l := range all {
		out = append(out, slices.Clone(l))
	}
	return out
}

// sameLists tells whether lists hold the same numbers.
func sameLists(a, b [][]int) bool { return slices.EqualFunc(a, b, slices.Equal[[]int]) }

// TestAnswersShareNothing: R3, R4: each list that was told is new memory, its spare room too, and the next answer is as if there were none.
func TestAnswersShareNothing(t *testing.T) {
	p := rich(t)
	all := lists(p)
	before := cloned(all)
	for n, l := range all {
		room := l[:cap(l)]
		for at := range room {
			room[at] = -77
		}
		if !sameLists(all[n+1:], before[n+1:]) {
			t.Fatalf("list %d shares memory with a later one", n)
		}
	}
	if again := lists(p); !sameLists(again, before) {
		t.Errorf("%v, then %v", before, again)
	}
}

// TestArgumentsAreLeft: R3: a program that is handed in is not changed, nor the room behind its lists' ends, whether or not it may be.
func TestArgumentsAreLeft(t *testing.T) {
	p := rich(t)
	code := append(slices.Clone(p.Code), 7, 8)
	funcs := append(slices.Clone(p.Funcs), api.Func{Begin: 8, End: 9})
	cases := append(slices.Clone(p.Tables[0].Cases), api.Case{Chan: 99})
	tables := []api.CaseTable{{Cases: cases[:2], Default: true}, p.Tables[1], {Default: true}}
	for range 2 {
		wantCode, wantFuncs, wantCases := slices.Clone(code), slices.Clone(funcs), slices.Clone(cases)
		q := api.Program{Code: code[:len(p.Code)], Funcs: funcs[:len(p.Funcs)], Tables: tables[:2]}
		proper.Check(q)
		lists(q)
		for f := range q.Funcs {
			proper.Depth(q, f)
		}
		for at := range q.Code {
			proper.In(q, at)
		}
		if !slices.Equal(code, wantCode) || !slices.Equal(funcs, wantFuncs) || !slices.Equal(cases, wantCases) || !tables[2].Default || len(tables[0].Cases) != 2 {
			t.Errorf("changed: %+v, %+v", q, tables)
		}
		code[3], funcs[1].End = noOp, 99
	}
}

// TestRoomBehindEnds: R3: what lies behind a list's end counts for nothing.
func TestRoomBehindEnds(t *testing.T) {
	p := rich(t)
	code := append(slices.Clone(p.Code), words(t, "call 0")...)
	funcs := append(slices.Clone(p.Funcs), api.Func{Begin: len(p.Code), End: len(p.Code) + 1})
	tables := append(slices.Clone(p.Tables), api.CaseTable{Cases: []api.Case{{Chan: 16}}})
	q := api.Program{Code: code[:len(p.Code)], Funcs: funcs[:len(p.Funcs)], Tables: tables[:len(p.Tables)]}
	likeModel(t, q)
	fine(t, q)
	untold(t, q, len(p.Code), len(p.Funcs), api.ErrArg)
	q.Code[0] = coded(t, api.Instr{Op: api.OpSelect, Imm: 2})
	wrong(t, q, 0, api.ErrTable)
	q.Code[0] = coded(t, api.Instr{Op: api.OpSpawn, Imm: 3})
	wrong(t, q, 0, api.ErrFunc)
	q.Funcs[2].End++
	wrong(t, q, 2, api.ErrFunc)
}

// TestOneAnswer: R4: the same program has the same answers, asked again and by several goroutines at once.
func TestOneAnswer(t *testing.T) {
	p := rich(t)
	want := lists(p)
	var group sync.WaitGroup
	for range 8 {
		group.Go(func() {
			for range 50 {
				if got := lists(p); !sameLists(got, want) {
					t.Errorf("%v, then %v", want, got)
				}
				for f, depth := range []int{2, 1, 0} {
					deep(t, p, f, depth)
				}
			}
		})
	}
	group.Wait()
}
