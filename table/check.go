package table

import (
	"rota/api"
	"rota/tick"
)

// Check tells whether a table may be, of so many domains; else the processor and the slot that are wrong.
func Check(t api.Table, domains int) (p, slot int, e api.Errno) {
	if domains < 1 || domains > api.MaxDomains {
		return 0, 0, api.ErrArg
	}
	if t.Frame < 1 || t.Frame > api.MaxFrame || len(t.Procs) < 1 || len(t.Procs) > api.MaxProcs {
		return 0, 0, api.ErrFrame
	}
	for i, l := range t.Procs {
		if at, e := checkSlots(l, t.Frame, domains); e != api.OK {
			return i, at, e
		}
	}
	return 0, 0, api.OK
}

// wrong is what Check refuses, of as many domains as there may be.
func wrong(t api.Table) api.Errno {
	_, _, e := Check(t, api.MaxDomains)
	return e
}

// checkSlots tells the first slot of a processor that is wrong, and why.
func checkSlots(l []api.Slot, frame uint64, domains int) (int, api.Errno) {
	if len(l) > api.MaxWins {
		return 0, api.ErrFull
	}
	var end uint64 // of the slot ahead
	for i, s := range l {
		if e := checkSlot(s, frame, domains, end); e != api.OK {
			return i, e
		}
		end = s.Window.Start + s.Window.Length
	}
	return 0, api.OK
}

// checkSlot tells why a slot is wrong behind one that ends at a place.
func checkSlot(s api.Slot, frame uint64, domains int, end uint64) api.Errno {
	switch {
	case tick.May(s.Window, frame) != api.OK || s.Pad >= s.Window.Length:
		return api.ErrWindow
	case s.Domain < 0 || s.Domain >= domains:
		return api.ErrOwner
	case s.Window.Start < end:
		return api.ErrMeet
	}
	return api.OK
}
