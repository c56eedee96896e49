package step_test

import (
	"math/big"
	"math/rand/v2"
	"slices"
	"testing"

	"rota/api"
	"rota/proper"
	"rota/step"
	"rota/word"
)

// wrapped is a number without bounds as registers hold it.
func wrapped(n *big.Int) int64 {
	low := new(big.Int).Mod(n, new(big.Int).Lsh(big.NewInt(1), 64))
	return int64(low.Uint64())
}

// modelReckon is what an operation puts into a, reckoned without bounds; false, if it is none of those that reckon.
func modelReckon(name string, imm int, ra, rb, rc int64) (int64, bool) {
	a, b, c, out := big.NewInt(ra), big.NewInt(rb), big.NewInt(rc), new(big.Int)
	places := uint(new(big.Int).Mod(c, big.NewInt(64)).Uint64())
	switch name {
	case "set":
		out.SetInt64(int64(imm))
	case "high":
		out.Add(out.Mul(a, big.NewInt(65536)), big.NewInt(int64(imm)))
	case "move":
		out.Set(b)
	case "add":
		out.Add(b, c)
	case "sub":
		out.Sub(b, c)
	case "mul":
		out.Mul(b, c)
	case "div":
		out.Quo(b, c)
	case "rem":
		out.Rem(b, c)
	case "and":
		out.And(b, c)
	case "or":
		out.Or(b, c)
	case "xor":
		out.Xor(b, c)
	case "shl":
		out.Lsh(b, places)
	case "shr":
		out.Rsh(b, places)
	case "less":
		out.SetInt64(int64(max(0, -b.Cmp(c))))
	case "equal":
		out.SetInt64(int64(1 - b.Cmp(c)*b.Cmp(c)))
	default:
		return 0, false
	}
	return wrapped(out), true
}

// modelTrap is why an instruction traps, by its name.
func modelTrap(p api.Program, c api.Context, name string, i api.Instr) api.Trap {
	switch {
	case (name == "div" || name == "rem") && c.Regs[i.C] == 0:
		return api.TrapDivide
	case name == "call" && len(c.Calls) > 63:
		return api.TrapCalls
	case name == "call" && i.Imm > len(p.Funcs)-1:
		return api.TrapWord
	case name == "trap":
		return api.TrapUser
	}
	return api.TrapNone
}

// modelStep is the document's words, by the operation's name.
func modelStep(p api.Program, c api.Context, e api.Env) (api.Context, api.Want) {
	if c.Pc < 0 || c.Pc > len(p.Code)-1 {
		return c, api.Want{Op: api.OpTrap, Trap: api.TrapWord}
	}
	i, refusal := word.Decode(p.Code[c.Pc])
	if refusal != api.OK {
		return c, api.Want{Op: api.OpTrap, Trap: api.TrapWord}
	}
	name, _ := word.Name(i.Op)
	if why := modelTrap(p, c, name, i); why != api.TrapNone {
		w := api.Want{Op: api.OpTrap, Trap: why}
		if name == "trap" {
			w.Code = i.Imm
		}
		return c, w
	}
	behind := to(c, c.Pc+1)
	a := c.Regs[i.A]
	if v, reckons := modelReckon(name, i.Imm, a, c.Regs[i.B], c.Regs[i.C]); reckons {
		return with(behind, i.A, v), api.Want{}
	}
	switch {
	case name == "nop", name == "zero" && a != 0, name == "some" && a == 0:
		return behind, api.Want{}
	case name == "jump", name == "zero", name == "some":
		return to(c, i.Imm), api.Want{}
	case name == "call":
		return to(calling(c, append(slices.Clone(c.Calls), c.Pc+1)...), p.Funcs[i.Imm].Begin), api.Want{}
	case name == "ret" && len(c.Calls) > 0:
		last := len(c.Calls) - 1
		return to(calling(c, c.Calls[:last]...), c.Calls[last]), api.Want{}
	case name == "self":
		gen := new(big.Int).Lsh(big.NewInt(int64(e.Self.Gen)), 32)
		return with(behind, i.A, wrapped(gen.Add(gen, big.NewInt(int64(e.Self.Slot))))), api.Want{}
	case name == "now":
		return with(behind, i.A, wrapped(new(big.Int).SetUint64(e.Clock))), api.Want{}
	}
	return behind, modelWant(c, name, i)
}

// modelWant is what is asked of the domain.
func modelWant(c api.Context, name string, i api.Instr) api.Want {
	switch name {
	case "exit", "ret":
		return api.Want{Op: api.OpExit}
	case "yield":
		return api.Want{Op: api.OpYield}
	}
	w := api.Want{Op: i.Op, Instr: i, X: c.Regs[i.A], Y: c.Regs[0], Z: c.Regs[0]}
	shape, _ := word.Shape(i.Op)
	if shape == api.ShapeAB || shape == api.ShapeABC {
		w.Y = c.Regs[i.B]
	}
	if shape == api.ShapeABC {
		w.Z = c.Regs[i.C]
	}
	return w
}

// likeModel holds a step, its cost, and what registers it changes against the document's words; it tells what the step wants.
func likeModel(t *testing.T, p api.Program, c api.Context, e api.Env) api.Want {
	t.Helper()
	want, wants := modelStep(p, c, e)
	steps(t, p, c, e, want, wants)
	d, w := step.Step(p, c, e)
	cost := 1
	if c.Pc >= 0 && c.Pc < len(p.Code) {
		if i, refusal := word.Decode(p.Code[c.Pc]); refusal == api.OK {
			cost, _ = word.Cost(i.Op)
			writes, _ := word.Writes(i)
			unwritten(t, c, d, writes)
		}
	}
	costs(t, p, c, cost)
	return w
}

// unwritten asks whether all registers but those of these bits are as they were.
func unwritten(t *testing.T, c, d api.Context, writes uint16) {
	t.Helper()
	for n := range c.Regs {
		if writes>>n&1 == 0 && c.Regs[n] != d.Regs[n] {
			t.Errorf("E4: register %d, that is not among %b, was %d, and is %d", n, writes, c.Regs[n], d.Regs[n])
		}
	}
}

// TestReckonAtEdges: E2: every operation that reckons, with all pairs of numbers at the edges.
func TestReckonAtEdges(t *testing.T) {
	for op := api.OpSet; op <= api.OpEqual; op++ {
		i := api.Instr{Op: op}
		switch shape, _ := word.Shape(op); shape {
		case api.ShapeAS:
			i.Imm = -9
		case api.ShapeAI:
			i.Imm = 40000
		case api.ShapeAB:
			i.B = 2
		default:
			i.B, i.C = 2, 3
		}
		i.A = 1
		p := only(t, i)
		for _, b := range edges() {
			for _, c := range edges() {
				likeModel(t, p, with(with(with(at(0, 7), 1, b), 2, b), 3, c), env())
			}
		}
	}
}

// TestAnyStep: E1, E2, E4: words, programs and contexts of any kind, most of them such as no program comes to.
func TestAnyStep(t *testing.T) {
	random := rand.New(rand.NewPCG(9, 1))
	seen := map[int]int{}
	trapped := map[api.Trap]int{}
	for range 200000 {
		p := anyProgram(random)
		w := likeModel(t, p, anyContext(random, len(p.Code)), api.Env{
			Clock: random.Uint64(),
			Self:  api.Gid{Slot: int(anyNumber(random)), Gen: int(anyNumber(random))},
		})
		if t.Failed() {
			t.FailNow()
		}
		seen[w.Op]++
		trapped[w.Trap]++
	}
	for op := api.OpSpawn; op < api.Ops; op++ {
		if seen[op] < 100 && op != api.OpSelf && op != api.OpNow {
			t.Errorf("%d was wanted %d times alone", op, seen[op])
		}
	}
	for _, why := range []api.Trap{api.TrapNone, api.TrapWord, api.TrapDivide, api.TrapCalls, api.TrapUser} {
		if trapped[why] < 100 {
			t.Errorf("the trap %d came %d times alone", why, trapped[why])
		}
	}
}

// anyNumber is 0, one at the edges, or any.
func anyNumber(random *rand.Rand) int64 {
	switch random.IntN(4) {
	case 0:
		return 0
	case 1:
		return int64(random.Uint64()) >> random.IntN(64)
	}
	return edges()[random.IntN(len(edges()))]
}

// anyProgram is a few words, most of them instructions, and functions wherever they are.
func anyProgram(random *rand.Rand) api.Program {
	var p api.Program
	for range random.IntN(4) {
		w := uint32(1+random.IntN(api.Ops-1))<<24 | random.Uint32()>>8
		if random.IntN(2) == 0 {
			w &= 0xFFFF000F
		}
		if shape, _ := word.Shape(int(w >> 24)); random.IntN(8) > 0 {
			// Bits that a shape has not are taken away.
			w &= []uint32{0xFF000000, 0xFFF00000, 0xFFFF0000, 0xFFFF000F, 0xFF00FFFF, 0xFFF0FFFF, 0xFFF0FFFF}[shape]
		}
		p.Code = append(p.Code, w)
	}
	for range random.IntN(12) {
		p.Funcs = append(p.Funcs, api.Func{Begin: int(anyNumber(random)), End: int(anyNumber(random))})
	}
	return p
}

// anyContext is one whose place is mostly a word, and whose calls are none, a few, or about so many as there may be.
func anyContext(random *rand.Rand, words int) api.Context {
	var c api.Context
	c.Pc = random.IntN(words + 1)
	if random.IntN(16) == 0 {
		c.Pc = int(anyNumber(random))
	}
	for n := range c.Regs {
		c.Regs[n] = anyNumber(random)
	}
	for range []int{0, 0, 1, 2, 62, 63, 64, 65, 80}[random.IntN(9)] {
		c.Calls = append(c.Calls, int(anyNumber(random)))
	}
	return c
}

// TestProgramsThatMayBe: E4: from Begin on no goroutine of a program that may be traps with TrapWord, whatever it is answered; it goes on where layer 8 says, and no register changes that layer 6 does not name.
func TestProgramsThatMayBe(t *testing.T) {
	random := rand.New(rand.NewPCG(9, 2))
	ends := map[api.Trap]int{}
	for range 2000 {
		p := properProgram(random)
		if at, e := proper.Check(p); e != api.OK {
			t.Fatalf("Check(%+v): %d, %d", p, at, e)
		}
		for f := range p.Funcs {
			ends[lives(t, random, p, f, 400)]++
		}
		if t.Failed() {
			t.FailNow()
		}
	}
	for _, why := range []api.Trap{api.TrapNone, api.TrapDivide, api.TrapCalls, api.TrapUser} {
		if ends[why] < 100 {
			t.Errorf("the trap %d came %d times alone", why, ends[why])
		}
	}
}

// lives runs a goroutine from a function's beginning on, up to its end or so many steps, and tells how it trapped.
func lives(t *testing.T, random *rand.Rand, p api.Program, f, steps int) api.Trap {
	t.Helper()
	var regs [api.Registers]int64
	for n := range regs {
		regs[n] = anyNumber(random)
	}
	c, e := step.Begin(p, f, regs)
	if e != api.OK {
		t.Fatalf("Begin(%+v, %d): %d", p, f, e)
	}
	for range steps {
		i, e := word.Decode(p.Code[c.Pc])
		if e != api.OK {
			t.Fatalf("%+v at %d: %d", p, c.Pc, e)
		}
		writes, _ := word.Writes(i)
		d, w := step.Step(p, c, env())
		unwritten(t, c, d, writes)
		if w.Op == api.OpTrap {
			if w.Trap == api.TrapWord {
				t.Errorf("E4: %s of %+v traps: %+v", brief(p, c.Pc), p, c)
			}
			return w.Trap
		}
		if w.Op == api.OpExit {
			return api.TrapNone
		}
		goesOn(t, p, i, c, d)
		if w.Op != api.OpNone {
			before := d
			d = step.Answer(d, w.Instr, anyNumber(random), anyNumber(random))
			unwritten(t, before, d, writes)
		}
		c = d
	}
	return api.TrapNone
}

// goesOn asks whether a goroutine goes on where layer 8 says; a Call and a Ret go to a function, and back behind the Call.
func goesOn(t *testing.T, p api.Program, i api.Instr, c, d api.Context) {
	t.Helper()
	next, _ := proper.Next(p, c.Pc)
	switch i.Op {
	case api.OpCall:
		if d.Pc != p.Funcs[i.Imm].Begin || !slices.Contains(next, d.Calls[len(d.Calls)-1]) {
			t.Errorf("called from %+v: %+v", c, d)
		}
	case api.OpRet:
		if d.Pc != c.Calls[len(c.Calls)-1] || len(d.Calls) != len(c.Calls)-1 {
			t.Errorf("returned from %+v: %+v", c, d)
		}
	default:
		if !slices.Contains(next, d.Pc) {
			t.Errorf("E4: %s at %d goes on at %d, not %v", brief(p, c.Pc), c.Pc, d.Pc, next)
		}
	}
}

// properProgram is one that may be, with a few tables, whose functions call one another and jump about.
func properProgram(random *rand.Rand) api.Program {
	p := api.Program{Tables: make([]api.CaseTable, 1+random.IntN(3))}
	funcs := 1 + random.IntN(5)
	for range funcs {
		begin := len(p.Code)
		end := begin + 1 + random.IntN(12)
		p.Funcs = append(p.Funcs, api.Func{Begin: begin, End: end})
		for range end - begin - 1 {
			i := api.Instr{Op: 1 + random.IntN(api.Ops-1)}
			if random.IntN(8) == 0 {
				i.Op = api.OpCall
			}
			p.Code = append(p.Code, properWord(random, i, begin, end, funcs, len(p.Tables)))
		}
		last := api.Instr{Op: []int{api.OpRet, api.OpExit, api.OpTrap, api.OpJump, api.OpRet}[random.IntN(5)]}
		p.Code = append(p.Code, properWord(random, last, begin, end, funcs, len(p.Tables)))
	}
	return p
}

// properWord is an instruction's word with fields that may be in its function.
func properWord(random *rand.Rand, i api.Instr, begin, end, funcs, tables int) uint32 {
	switch shape, _ := word.Shape(i.Op); shape {
	case api.ShapeABC:
		i.A, i.B, i.C = random.IntN(16), random.IntN(16), random.IntN(16)
	case api.ShapeAB:
		i.A, i.B = random.IntN(16), random.IntN(16)
	case api.ShapeA, api.ShapeAI:
		i.A = random.IntN(16)
	case api.ShapeAS:
		i.A, i.Imm = random.IntN(16), random.IntN(65536)-32768
	}
	switch i.Op {
	case api.OpJump, api.OpZero, api.OpSome:
		i.Imm = begin + random.IntN(end-begin)
	case api.OpCall, api.OpSpawn:
		i.Imm = random.IntN(funcs)
	case api.OpSelect:
		i.Imm = random.IntN(tables)
	case api.OpHigh, api.OpTrap:
		i.Imm = random.IntN(65536)
	}
	w, _ := word.Encode(i)
	return w
}

// TestCallsWithoutEnd: E2, E4: a function that calls itself traps with the 65th call, and not ahead of it, at whatever place.
func TestCallsWithoutEnd(t *testing.T) {
	p := program(t, "func f", "nop", "call f", "ret")
	c, _ := step.Begin(p, 0, numbered())
	for n := range api.MaxCalls {
		c, _ = step.Step(p, c, env())
		goes(t, p, c, calling(to(c, 0), append(slices.Clone(c.Calls), 2)...))
		c, _ = step.Step(p, c, env())
		if len(c.Calls) != n+1 {
			t.Fatalf("%d calls, not %d", len(c.Calls), n+1)
		}
	}
	c, _ = step.Step(p, c, env())
	traps(t, p, c, api.TrapCalls)
}

// TestWholeRun: E1 to E4: a program that reckons by calls and jumps, from its beginning to its end, with an answer on the way.
func TestWholeRun(t *testing.T) {
	// r2 is the product of all numbers from 1 up to the input.
	p := program(t, "func main", "input r1 r5", "set r2 1", "call times", "output r2", "ret",
		"func times", "zero r1 9", "call once", "jump 5", "nop", "ret",
		"func once", "mul r2 r2 r1", "set r3 1", "sub r1 r1 r3", "ret")
	c, _ := step.Begin(p, 0, [api.Registers]int64{})
	var told []int64
	for range 1000 {
		d, w := step.Step(p, c, env())
		switch w.Op {
		case api.OpInput:
			d = step.Answer(d, w.Instr, 20, 1)
		case api.OpOutput:
			told = append(told, w.X)
		case api.OpTrap:
			t.Fatalf("%+v at %+v", w, c)
		case api.OpExit:
			if !slices.Equal(told, []int64{2432902008176640000}) || d.Regs[5] != 1 || d.Pc != 5 {
				t.Errorf("%v, %+v", told, d)
			}
			return
		}
		c = d
	}
	t.Errorf("it does not end: %+v", c)
}
