package port

import (
	"math"
	"slices"

	"rota/api"
)

// most is where ages, and the number of those that were lost, stay.
const most = math.MaxInt32

// kept is the values of a port of either kind, oldest first.
type kept struct {
	out []int64    // what was put since the last delivery
	in  []api.Aged // what can be got
}

// keptOf is the values of two lists, in memory of its own.
func keptOf(out []int64, in []api.Aged) kept {
	return kept{slices.Concat(out), slices.Concat(in)}
}

// first is the value that is got next, and its age; 0 and -1, if there is none.
func (k *kept) first() (int64, int) {
	if len(k.in) == 0 {
		return 0, -1
	}
	return k.in[0].Value, k.in[0].Age
}

// grow makes each that can be got one delivery older.
func (k *kept) grow() {
	for i := range k.in {
		if k.in[i].Age < most {
			k.in[i].Age++
		}
	}
}
