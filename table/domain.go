package table

import (
	"cmp"
	"slices"

	"rota/api"
	"rota/tick"
)

// Has is the processors that a domain has at a tick, rising.
func Has(t api.Table, now uint64, domain int) ([]int, api.Errno) {
	var l []int
	// The slots of a processor don't meet, so that none is told twice.
	e := each(t, domain, func(p int, s api.Slot) {
		if inside(t, now, s) {
			l = append(l, p)
		}
	})
	return l, e
}

// Ticks is how many of the first n ticks of frames a domain has some processor.
func Ticks(t api.Table, n uint64, domain int) (uint64, api.Errno) {
	var l []api.Window
	e := each(t, domain, func(_ int, s api.Slot) { l = append(l, s.Window) })
	var sum uint64
	for _, w := range apart(l) {
		count, _ := tick.Count(0, n, t.Frame, w)
		sum += count
	}
	return sum, e
}

// apart is windows that have the same places as those of a list, each place once. It sorts the list.
func apart(l []api.Window) []api.Window {
	slices.SortFunc(l, func(a, b api.Window) int { return cmp.Compare(a.Start, b.Start) })
	var out []api.Window
	var next uint64 // the first place behind all windows so far
	for _, w := range l {
		begin, end := max(w.Start, next), w.Start+w.Length
		if begin < end {
			out = append(out, api.Window{Start: begin, Length: end - begin})
			next = end
		}
	}
	return out
}

// Share is how many ticks of processors a domain can run in a frame.
func Share(t api.Table, domain int) (uint64, api.Errno) {
	var sum uint64
	e := each(t, domain, func(_ int, s api.Slot) { sum += run(s).Length })
	return sum, e
}

// Longest is the longest time that a domain can run at a stretch in a window.
func Longest(t api.Table, domain int) (uint64, api.Errno) {
	var most uint64
	e := each(t, domain, func(_ int, s api.Slot) { most = max(most, run(s).Length) })
	return most, e
}

// each calls do with all slots of a domain and their processors: by the processor's number, and then in order.
func each(t api.Table, domain int, do func(p int, s api.Slot)) api.Errno {
	if e := wrong(t); e != api.OK {
		return e
	}
	if domain < 0 || domain >= api.MaxDomains {
		return api.ErrArg
	}
	for p, l := range t.Procs {
		for _, s := range l {
			if s.Domain == domain {
				do(p, s)
			}
		}
	}
	return api.OK
}
