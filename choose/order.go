package choose

import (
	"slices"

	"rota/api"
)

// Order is the order in which so many cases are looked at, by drawn numbers.
func Order(n int, draws []uint64) ([]int, api.Errno) {
	if n < 0 || n > api.MaxCases {
		return nil, api.ErrArg
	}
	if len(draws) < n {
		return nil, api.ErrDraws
	}
	order := make([]int, n)
	for i := range order {
		j := draws[i] % uint64(i+1)
		order[i] = order[j]
		order[j] = i
	}
	return order, api.OK
}

// Draws is the least drawn numbers of which an order comes.
func Draws(order []int) ([]uint64, api.Errno) {
	if len(order) > api.MaxCases {
		return nil, api.ErrArg
	}
	if !hasEachOnce(order) {
		return nil, api.ErrPerm
	}
	left, draws := slices.Clone(order), make([]uint64, len(order))
	// Order is undone from its last case back: ahead of it the last place's case stood where that one does.
	for i := len(left) - 1; i >= 0; i-- {
		j := slices.Index(left, i)
		draws[i] = uint64(j)
		left[j] = left[i]
		left = left[:i]
	}
	return draws, api.OK
}

// hasEachOnce tells whether a list has each number below its length: there is no place then for one of them twice, or for another one.
func hasEachOnce(l []int) bool {
	for n := range l {
		if !slices.Contains(l, n) {
			return false
		}
	}
	return true
}
