package step_test

import (
	"slices"
	"sync"
	"testing"

	"rota/api"
	"rota/step"
)

// eachOp hands over a program of one word of every operation, of a function 0 that there is, and a word that is none.
func eachOp(t *testing.T, do func(p api.Program)) {
	t.Helper()
	for op := api.OpNop; op < api.Ops; op++ {
		do(only(t, api.Instr{Op: op}))
	}
	do(api.Program{Code: []uint32{noOp}})
	do(api.Program{})
}

// overwritten writes over all of a list, its spare room too.
func overwritten(l []int) {
	room := l[:cap(l)]
	for n := range room {
		room[n] = -77
	}
}

// TestAnswersShareNothing: E2, E3, R3: the answer's Calls is new memory, its spare room too, whatever is done, with a trap too, and however much room there is behind the calls that were handed in.
func TestAnswersShareNothing(t *testing.T) {
	for _, count := range []int{0, 1, 2, 63, 64, 65} {
		for _, spare := range []int{0, 1, 100} {
			room := append(many(count, 0), make([]int, spare)...)
			want := slices.Clone(room)
			c := at(0, room[:count]...)
			eachOp(t, func(p api.Program) {
				d, _ := step.Step(p, c, env())
				overwritten(d.Calls)
				d, _ = step.Step(p, to(c, -1), env())
				overwritten(d.Calls)
			})
			for op := range api.Ops {
				d := step.Answer(c, api.Instr{Op: op, A: 1, B: 2, C: 3}, 9, 1)
				overwritten(d.Calls)
			}
			if !slices.Equal(room, want) {
				t.Errorf("%d calls, and %d behind them: they became %v", count, spare, room)
			}
		}
	}
}

// TestAnswersStay: R3: what was answered does not change when what was handed in does, nor by a later step from the same place.
func TestAnswersStay(t *testing.T) {
	p := program(t, "func f", "call g", "exit", "func g", "ret")
	calls := append(many(5, 40), 0, 0, 0)
	c := at(0, calls[:5]...)
	first, _ := step.Step(p, c, env())
	second, _ := step.Step(p, first, env())
	other := step.Answer(c, api.Instr{Op: api.OpMake, A: 1}, 9, 0)
	wantFirst, wantSecond, wantOther := cloned(first), cloned(second), cloned(other)
	// From one context on two ways are gone.
	step.Step(p, second, env())
	step.Step(p, calling(at(0), first.Calls[:5]...), env())
	overwritten(calls)
	if !same(first, wantFirst) || !same(second, wantSecond) || !same(other, wantOther) {
		t.Errorf("%+v, %+v, %+v became %+v, %+v, %+v", wantFirst, wantSecond, wantOther, first, second, other)
	}
	if !slices.Equal(wantFirst.Calls, append(many(5, 40), 1)) || !slices.Equal(wantSecond.Calls, many(5, 40)) {
		t.Errorf("%v, %v", wantFirst.Calls, wantSecond.Calls)
	}
}

// TestArgumentsAreLeft: R3: a program is not changed, nor what lies behind its lists' ends, nor the registers that a goroutine begins with.
func TestArgumentsAreLeft(t *testing.T) {
	eachOp(t, func(p api.Program) {
		code := append(slices.Clone(p.Code), 5, 6, 7)
		funcs := append(slices.Clone(p.Funcs), api.Func{Begin: 8, End: 9})
		wantCode, wantFuncs := slices.Clone(code), slices.Clone(funcs)
		q := api.Program{Code: code[:len(p.Code)], Funcs: funcs[:len(p.Funcs)]}
		regs := numbered()
		c, _ := step.Begin(q, 0, regs)
		step.Cost(q, c)
		step.Step(q, c, env())
		step.Step(q, calling(c, 1, 2), env())
		if !slices.Equal(code, wantCode) || !slices.Equal(funcs, wantFuncs) || regs != numbered() {
			t.Errorf("%v, %v, %v became %v, %v, %v", wantCode, wantFuncs, numbered(), code, funcs, regs)
		}
	})
}

// TestRoomBehindEnds: R3: words, functions and calls that lie behind a list's end are none.
func TestRoomBehindEnds(t *testing.T) {
	code := []uint32{coded(t, api.Instr{Op: api.OpCall, Imm: 1}), coded(t, api.Instr{Op: api.OpDiv}), coded(t, api.Instr{Op: api.OpRet})}
	funcs := []api.Func{{Begin: 0, End: 1}, {Begin: 1, End: 2}}
	p := api.Program{Code: code[:1], Funcs: funcs[:1]}
	traps(t, p, at(0), api.TrapWord)
	traps(t, p, at(1), api.TrapWord)
	costs(t, p, at(1), 1)
	if c, e := step.Begin(p, 1, numbered()); !same(c, api.Context{}) || e != api.ErrArg {
		t.Errorf("Begin: %+v, %d", c, e)
	}
	steps(t, api.Program{Code: code}, at(2, []int{5, 6}[:0]...), env(), at(3), api.Want{Op: api.OpExit})
	p = api.Program{Code: code, Funcs: funcs}
	goes(t, p, at(0, many(64, 0)[:63]...), at(1, append(many(64, 0)[:63], 1)...))
}

// TestOneAnswer: R4: the same arguments have the same answer, asked again and by several goroutines at once.
func TestOneAnswer(t *testing.T) {
	p := program(t, "func f", "call g", "exit", "func g", "mul r1 r1 r2", "self r3", "now r4", "recv r5 r6 r7", "ret")
	var group sync.WaitGroup
	shared := at(0, 9)
	for range 8 {
		group.Go(func() {
			for range 200 {
				c := shared
				for range 4 {
					c, _ = step.Step(p, c, env())
				}
				c, w := step.Step(p, c, env())
				c = step.Answer(c, w.Instr, 11, 1)
				c, _ = step.Step(p, c, env())
				want := with(with(with(with(with(at(1, 9), 1, 1001*1002), 3, 5<<32+3), 4, clock), 5, 11), 6, 1)
				if !same(c, want) || w.Z != 1007 {
					t.Errorf("%+v, not %+v; %+v", c, want, w)
				}
			}
		})
	}
	group.Wait()
}
