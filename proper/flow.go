package proper

import (
	"slices"

	"rota/api"
	"rota/word"
)

// What stands here asks for programs that Check lets be: it decodes without looking at refusals, and stays within the code.

// endless is the depth of calls that come round.
const endless = -1

// next is the words to which a word may go on, rising, each once.
func next(p api.Program, at int) []int {
	i, _ := word.Decode(p.Code[at])
	var out []int
	if hasTarget(i.Op) {
		out = append(out, i.Imm)
	}
	if !ending(i.Op) {
		out = append(out, at+1)
	}
	slices.Sort(out)
	return slices.Compact(out)
}

// reach is the words of a function that can be come to, rising.
func reach(p api.Program, f int) []int {
	return comeTo(p.Funcs[f].Begin, len(p.Code), func(at int) []int { return next(p, at) })
}

// named is the functions that a Call, or, with spawned, a Spawn, that can be come to within one names, as they stand there.
func named(p api.Program, f int, spawned bool) []int {
	var out []int
	for _, at := range reach(p, f) {
		i, _ := word.Decode(p.Code[at])
		if i.Op == api.OpCall || spawned && i.Op == api.OpSpawn {
			out = append(out, i.Imm)
		}
	}
	return out
}

// comeTo is all numbers below count to which the ways that are handed in lead from one, itself too, rising.
func comeTo(from, count int, ways func(n int) []int) []int {
	seen := make([]bool, count)
	seen[from] = true
	out := []int{from}
	// The list grows while it is gone over: what is found is looked at in its turn.
	for at := 0; at < len(out); at++ {
		for _, n := range ways(out[at]) {
			if !seen[n] {
				seen[n] = true
				out = append(out, n)
			}
		}
	}
	slices.Sort(out)
	return out
}

// depth is how many calls in one another begin within a function, or endless. What is known of functions is kept, so that none is looked at twice.
func depth(p api.Program, f int, known map[int]int) int {
	if deep, there := known[f]; there {
		return deep
	}
	// As long as its calls are looked at it counts as endless: who calls it meanwhile comes round.
	known[f] = endless
	deepest := 0
	for _, g := range named(p, f, false) {
		deep := depth(p, g, known)
		if deep == endless {
			return endless
		}
		deepest = max(deepest, deep+1)
	}
	known[f] = deepest
	return deepest
}
