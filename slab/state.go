package slab

import (
	"slices"

	"rota/api"
)

// sized tells whether there may be so many goroutines and so many processors.
func sized(limit, procs int) bool {
	return limit >= 1 && limit <= api.MaxGs && procs >= 1 && procs <= api.MaxProcs
}

// slotsMayBe tells whether a state's slots may be, whatever its free lists hold.
func slotsMayBe(s api.SlabState) bool {
	if len(s.Gens) > s.Limit || len(s.Alive) != len(s.Gens) {
		return false
	}
	return !slices.ContainsFunc(s.Gens, func(gen int) bool { return gen < 1 || gen > api.MaxGen })
}

// listsMayBe tells whether each slot that is free stands once in a state's free lists, and no other one; its slots may be.
func listsMayBe(s api.SlabState) bool {
	missing := make([]bool, len(s.Gens)) // the free ones that were not come upon yet
	for slot, gen := range s.Gens {
		missing[slot] = !s.Alive[slot] && gen < api.MaxGen
	}
	for _, cache := range s.Caches {
		if len(cache) >= api.CacheSize || !strike(missing, cache) {
			return false
		}
	}
	return strike(missing, s.Free) && !slices.Contains(missing, true)
}

// strike strikes a free list's slots off those that are missing; false, if one is not among them.
func strike(missing []bool, list []int) bool {
	for _, slot := range list {
		if slot < 0 || slot >= len(missing) || !missing[slot] {
			return false
		}
		missing[slot] = false
	}
	return true
}

// copied is a state in memory of its own.
func copied(s api.SlabState) api.SlabState {
	s.Gens = slices.Clone(s.Gens)
	s.Alive = slices.Clone(s.Alive)
	s.Free = slices.Clone(s.Free)
	s.Caches = slices.Clone(s.Caches)
	for p, cache := range s.Caches {
		s.Caches[p] = slices.Clone(cache)
	}
	return s
}
