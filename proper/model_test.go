package proper_test

import (
	"math/rand/v2"
	"slices"
	"testing"

	"rota/api"
	"rota/proper"
	"rota/word"
)

// fault is something wrong with a program, by the document's list: which of its four, where, and which of what is told of one place.
type fault struct {
	list, place, rank int
	e                 api.Errno
}

// modelCheck gathers all that is wrong, and tells the first.
func modelCheck(p api.Program) (int, api.Errno) {
	var all []fault
	if len(p.Code) > 4096 || len(p.Funcs) > 256 || len(p.Tables) > 256 {
		all = append(all, fault{1, 0, 0, api.ErrFull})
	}
	all = append(all, modelFuncs(p)...)
	for n, table := range p.Tables {
		bad := len(table.Cases) > 16
		for _, c := range table.Cases {
			for _, r := range []int{c.Chan, c.Val, c.Ok} {
				bad = bad || !slices.Contains(upTo(16), r)
			}
			bad = bad || c.Send && c.Ok != 0
		}
		if bad {
			all = append(all, fault{3, n, 0, api.ErrTable})
		}
	}
	if len(all) == 0 {
		all = modelWords(p)
	}
	if len(all) == 0 {
		return 0, api.OK
	}
	least := slices.MinFunc(all, func(a, b fault) int {
		return slices.Compare([]int{a.list, a.place, a.rank}, []int{b.list, b.place, b.rank})
	})
	return least.place, least.e
}

func modelFuncs(p api.Program) []fault {
	var all []fault
	for n, f := range p.Funcs {
		if n == 0 && f.Begin != 0 || n > 0 && f.Begin != p.Funcs[n-1].End || f.Begin >= f.End || f.End > len(p.Code) {
			all = append(all, fault{2, n, 0, api.ErrFunc})
		}
	}
	if last := len(p.Funcs) - 1; last < 0 || p.Funcs[last].End != len(p.Code) {
		all = append(all, fault{2, len(p.Funcs), 0, api.ErrFunc})
	}
	return all
}

// modelWords is what is wrong with words, where the functions part the code.
func modelWords(p api.Program) []fault {
	var all []fault
	for at, w := range p.Code {
		i, e := word.Decode(w)
		if e != api.OK {
			all = append(all, fault{4, at, 0, api.ErrWord})
			continue
		}
		name, _ := word.Name(i.Op)
		if slices.Contains([]string{"jump", "zero", "some"}, name) && (i.Imm >= len(p.Code) || modelIn(p, i.Imm) != modelIn(p, at)) {
			all = append(all, fault{4, at, 1, api.ErrTarget})
		}
		if slices.Contains([]string{"call", "spawn"}, name) && !slices.Contains(upTo(len(p.Funcs)), i.Imm) {
			all = append(all, fault{4, at, 2, api.ErrFunc})
		}
		if name == "select" && !slices.Contains(upTo(len(p.Tables)), i.Imm) {
			all = append(all, fault{4, at, 3, api.ErrTable})
		}
		last := at == len(p.Code)-1 || modelIn(p, at+1) != modelIn(p, at)
		if last && !slices.Contains([]string{"jump", "ret", "exit", "trap"}, name) {
			all = append(all, fault{4, at, 4, api.ErrOut})
		}
	}
	return all
}

// modelIn is the function of a word; -1, if it is of none.
func modelIn(p api.Program, at int) int {
	for n, f := range p.Funcs {
		if f.Begin <= at && at < f.End {
			return n
		}
	}
	return -1
}

func modelNext(p api.Program, at int) []int {
	i, _ := word.Decode(p.Code[at])
	switch name, _ := word.Name(i.Op); name {
	case "jump":
		return []int{i.Imm}
	case "zero", "some":
		return []int{min(i.Imm, at+1), max(i.Imm, at+1)}
	case "ret", "exit", "trap":
		return nil
	}
	return []int{at + 1}
}

// grown is a set to which its followers are put again and again, as long as it grows, all numbers looked at each time.
func grown(from, count int, followers func(n int) []int) []bool {
	set := make([]bool, count)
	set[from] = true
	for changed := true; changed; {
		changed = false
		for n := range count {
			if !set[n] {
				continue
			}
			for _, m := range followers(n) {
				changed = changed || !set[m]
				set[m] = true
			}
		}
	}
	return set
}

// members is the numbers of a set.
func members(set []bool) []int {
	var out []int
	for n, there := range set {
		if there {
			out = append(out, n)
		}
	}
	return out
}

func modelReach(p api.Program, f int) []int {
	return members(grown(p.Funcs[f].Begin, len(p.Code), func(at int) []int { return modelNext(p, at) }))
}

// modelNamed is the functions that one names by itself.
func modelNamed(p api.Program, f int, spawned bool) []int {
	var out []int
	for _, at := range modelReach(p, f) {
		i, _ := word.Decode(p.Code[at])
		if name, _ := word.Name(i.Op); name == "call" || name == "spawn" && spawned {
			out = append(out, i.Imm)
		}
	}
	return out
}

func modelCalls(p api.Program, f int, spawned bool) []int {
	return members(grown(f, len(p.Funcs), func(g int) []int { return modelNamed(p, g, spawned) }))
}

// modelDepth goes on by a call at a time, all ways at once: who can do so as often as there are functions comes round.
func modelDepth(p api.Program, f int) int {
	now := map[int]int{f: 0}
	for depth := range len(p.Funcs) {
		then := map[int]int{}
		for g := range now {
			for _, h := range modelNamed(p, g, false) {
				then[h] = 0
			}
		}
		if len(then) == 0 {
			return depth
		}
		now = then
	}
	return -1
}

// likeModel holds all calls of a program against the model, of all words and functions, and of such as are none; it tells what Check does.
func likeModel(t *testing.T, p api.Program) api.Errno {
	t.Helper()
	place, refusal := modelCheck(p)
	if refusal != api.OK {
		wrong(t, p, place, refusal)
		return refusal
	}
	fine(t, p)
	for at := range p.Code {
		in(t, p, at, modelIn(p, at))
		goesOn(t, p, at, slices.Compact(modelNext(p, at))...)
	}
	for f := range p.Funcs {
		reaches(t, p, f, modelReach(p, f)...)
		calls(t, p, f, modelCalls(p, f, false)...)
		spawns(t, p, f, modelCalls(p, f, true)...)
		deep(t, p, f, modelDepth(p, f))
	}
	untold(t, p, -1, -1, api.ErrArg)
	untold(t, p, len(p.Code), len(p.Funcs), api.ErrArg)
	return api.OK
}

// TestAllShortPrograms: Q1 to Q5: all programs of up to four words out of some of each kind, parted in all ways into functions.
func TestAllShortPrograms(t *testing.T) {
	some := append(words(t, "nop", "jump 0", "jump 1", "jump 2", "jump 3", "zero r1 0", "some r1 2", "call 0", "call 1", "spawn r1 0", "select r1 0", "exit"), noOp)
	var walk func(code []uint32, left int)
	walk = func(code []uint32, left int) {
		for cuts := range 1 << max(0, len(code)-1) {
			if likeModel(t, api.Program{Code: code, Funcs: partedBy(len(code), cuts)}); t.Failed() {
				t.FailNow()
			}
		}
		if left == 0 {
			return
		}
		for _, w := range some {
			walk(append(slices.Clone(code), w), left-1)
		}
	}
	walk(nil, 4)
}

// partedBy is functions that part so many words; each bit of cuts tells whether one ends behind the word of that number.
func partedBy(count, cuts int) []api.Func {
	var out []api.Func
	begin := 0
	for at := range count {
		if at == count-1 || cuts>>at&1 == 1 {
			out = append(out, api.Func{Begin: begin, End: at + 1})
			begin = at + 1
		}
	}
	return out
}

// TestAllShortFunctions: Q1: all lists of up to three functions with ends from -1 to 3, over two words.
func TestAllShortFunctions(t *testing.T) {
	code := words(t, "exit", "exit")
	var walk func(funcs []api.Func, left int)
	walk = func(funcs []api.Func, left int) {
		if likeModel(t, api.Program{Code: code, Funcs: funcs}); t.Failed() {
			t.FailNow()
		}
		if left == 0 {
			return
		}
		for begin := -1; begin <= 3; begin++ {
			for end := -1; end <= 3; end++ {
				walk(append(slices.Clone(funcs), api.Func{Begin: begin, End: end}), left-1)
			}
		}
	}
	walk(nil, 3)
}

// TestMixedPrograms: Q1 to Q5: random programs, most of them right; all kinds of answers come.
func TestMixedPrograms(t *testing.T) {
	random := rand.New(rand.NewPCG(8, 1))
	seen := map[api.Errno]int{}
	for range 20000 {
		p := randomProgram(random)
		if random.IntN(2) == 0 {
			spoilOne(random, p)
		}
		seen[likeModel(t, p)]++
		if t.Failed() {
			t.FailNow()
		}
	}
	for _, e := range []api.Errno{api.OK, api.ErrWord, api.ErrFunc, api.ErrTarget, api.ErrTable, api.ErrOut} {
		if seen[e] < 100 {
			t.Errorf("%d came %d times alone", e, seen[e])
		}
	}
}

// randomProgram is one that may be: its functions call and spawn one another, and jump about within themselves.
func randomProgram(random *rand.Rand) api.Program {
	var p api.Program
	for range random.IntN(3) {
		table := api.CaseTable{Default: random.IntN(2) == 0}
		for range random.IntN(17) {
			c := api.Case{Send: random.IntN(2) == 0, Chan: random.IntN(16), Val: random.IntN(16)}
			if !c.Send {
				c.Ok = random.IntN(16)
			}
			table.Cases = append(table.Cases, c)
		}
		p.Tables = append(p.Tables, table)
	}
	count := 1 + random.IntN(8)
	for range count {
		begin := len(p.Code)
		end := begin + 1 + random.IntN(7)
		p.Funcs = append(p.Funcs, api.Func{Begin: begin, End: end})
		for at := begin; at < end-1; at++ {
			p.Code = append(p.Code, randomWord(random, begin, end, count, len(p.Tables)))
		}
		last, _ := word.Encode(api.Instr{Op: []int{api.OpRet, api.OpExit, api.OpTrap}[random.IntN(3)]})
		if random.IntN(2) == 0 {
			last, _ = word.Encode(api.Instr{Op: api.OpJump, Imm: begin + random.IntN(end-begin)})
		}
		p.Code = append(p.Code, last)
	}
	return p
}

// randomWord is one that may stand ahead of a function's last word.
func randomWord(random *rand.Rand, begin, end, funcs, tables int) uint32 {
	i := api.Instr{Op: 1 + random.IntN(api.Ops-1)}
	if random.IntN(3) > 0 {
		i.Op = []int{api.OpJump, api.OpZero, api.OpSome, api.OpCall, api.OpCall, api.OpSpawn, api.OpSelect, api.OpExit}[random.IntN(8)]
	}
	switch i.Op {
	case api.OpJump, api.OpZero, api.OpSome:
		i.Imm = begin + random.IntN(end-begin)
	case api.OpCall, api.OpSpawn:
		i.Imm = random.IntN(funcs)
	case api.OpSelect:
		if tables == 0 {
			i.Op = api.OpYield
		} else {
			i.Imm = random.IntN(tables)
		}
	}
	w, _ := word.Encode(i)
	return w
}

// spoilOne changes something of a program, mostly so that it may not be.
func spoilOne(random *rand.Rand, p api.Program) {
	for range 1 + random.IntN(2) {
		at := random.IntN(len(p.Code))
		f := &p.Funcs[random.IntN(len(p.Funcs))]
		switch random.IntN(6) {
		case 0:
			p.Code[at] ^= 1 << random.IntN(32)
		case 1:
			p.Code[at] = []uint32{noOp, noField, 0x01000000}[random.IntN(3)]
		case 2:
			p.Code[f.End-1], p.Code[at] = p.Code[at], p.Code[f.End-1]
		case 3:
			// Its lowest bits are a register, a target, a function or a table.
			p.Code[at] += uint32(random.IntN(4))
		case 4:
			if len(p.Tables) > 0 && len(p.Tables[0].Cases) > 0 {
				p.Tables[0].Cases[0].Ok += random.IntN(5) - 2
			}
		case 5:
			*[]*int{&f.Begin, &f.End}[random.IntN(2)] += random.IntN(3) - 1
			// What is spoilt next leans on its end.
			return
		}
	}
}

// TestWhatFollows: Q6, Q7, Q8: told of programs that may be, by what the calls tell alone.
func TestWhatFollows(t *testing.T) {
	random := rand.New(rand.NewPCG(8, 2))
	for range 5000 {
		if follows(t, randomProgram(random)); t.Failed() {
			t.FailNow()
		}
	}
	for _, p := range []api.Program{exits(api.MaxFuncs), whole(exits(100)), chain(t, 100, 1), chain(t, 60, 15), one(t, "jump 0"), one(t, "call 0", "ret")} {
		follows(t, p)
	}
}

// follows asks whether no word goes on out of its function, what follows a word that can be come to can be come to, and calls are less deep than there are functions.
func follows(t *testing.T, p api.Program) {
	t.Helper()
	fine(t, p)
	for at := range p.Code {
		own, _ := proper.In(p, at)
		next, _ := proper.Next(p, at)
		for _, to := range next {
			if f, e := proper.In(p, to); f != own || e != api.OK {
				t.Errorf("Q6: %s: from %d to %d: In: %d, %d, not %d", brief(p), at, to, f, e, own)
			}
		}
	}
	for f := range p.Funcs {
		reach, _ := proper.Reach(p, f)
		if len(reach) == 0 || reach[0] != p.Funcs[f].Begin || !slices.IsSorted(reach) {
			t.Errorf("Q3: Reach(%s, %d): %v", brief(p), f, reach)
		}
		for _, at := range reach {
			next, _ := proper.Next(p, at)
			for _, to := range next {
				if !slices.Contains(reach, to) {
					t.Errorf("Q7: %s: from %d to %d, which is not in %v", brief(p), at, to, reach)
				}
			}
		}
		all, _ := proper.Calls(p, f, false)
		if depth, e := proper.Depth(p, f); e != api.OK || depth < -1 || depth >= len(all) {
			t.Errorf("Q8: Depth(%s, %d): %d, %d, of %v", brief(p), f, depth, e, all)
		}
	}
}
