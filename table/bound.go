package table

import (
	"slices"

	"rota/api"
	"rota/tick"
)

// maxSupply is of how many ticks Supply tells at most.
const maxSupply = 1 << 48

// Wait is how many ticks it is at most from any tick on till a window of a domain begins in which it can run so long; false: none does.
func Wait(t api.Table, domain int, long uint64) (uint64, bool, api.Errno) {
	var starts []uint64
	e := each(t, domain, func(_ int, s api.Slot) {
		if run(s).Length >= long {
			starts = append(starts, s.Window.Start)
		}
	})
	if len(starts) == 0 {
		return 0, false, e
	}
	slices.Sort(starts)
	starts = slices.Compact(starts)
	// The longest way begins one tick behind some beginning; the last one's leads to the next frame.
	most := t.Frame - 1 - starts[len(starts)-1] + starts[0]
	for i, s := range starts[1:] {
		most = max(most, s-starts[i]-1)
	}
	return most, true, api.OK
}

// Supply is on how many ticks of processors a domain can count in any n ticks, one behind the other, wherever they begin.
func Supply(t api.Table, domain int, n uint64) (uint64, api.Errno) {
	var l []api.Window
	e := each(t, domain, func(_ int, s api.Slot) { l = append(l, run(s)) })
	if e != api.OK {
		return 0, e
	}
	if n > maxSupply {
		return 0, api.ErrArg
	}
	// A whole frame has the same wherever it begins: the rest alone hangs on that.
	rest, frames, e := tick.Place(n, t.Frame)
	return frames*lengths(l) + least(crowds(l, t.Frame), rest), e
}

// lengths is how long some windows are together.
func lengths(l []api.Window) uint64 {
	var sum uint64
	for _, w := range l {
		sum += w.Length
	}
	return sum
}

// crowds is for each place of a frame how many of some windows it is inside.
func crowds(l []api.Window, frame uint64) []uint64 {
	begin, end := make([]uint64, frame), make([]uint64, frame+1) // a window may end behind the last place
	for _, w := range l {
		begin[w.Start]++
		end[w.Start+w.Length]++
	}
	var now uint64
	for i := range begin {
		now += begin[i] - end[i]
		begin[i] = now
	}
	return begin
}

// least is the least sum of so many numbers of a list, one behind the other, where its first comes behind its last.
func least(l []uint64, many uint64) uint64 {
	sum := uint64(0)
	for _, x := range l[:many] {
		sum += x
	}
	low := sum
	for i, x := range l {
		sum += l[(uint64(i)+many)%uint64(len(l))] - x
		low = min(low, sum)
	}
	return low
}
