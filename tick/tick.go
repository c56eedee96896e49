// Package tick is layer 1: the clock's arithmetic: see shared/doc/01-tick.md.
package tick

import "rota/api"

// last is the last tick: there is none behind it.
const last uint64 = 1<<64 - 1

// Add is the sum of two numbers of ticks.
func Add(a, b uint64) (uint64, api.Errno) {
	if b > last-a {
		return 0, api.ErrEnd
	}
	return a + b, api.OK
}

// Up is how many parts of a size it takes to cover a number of ticks.
func Up(a, b uint64) (uint64, api.Errno) {
	if b == 0 {
		return 0, api.ErrZero
	}
	n := a / b
	// Not (a + b - 1) / b: that sum may wrap.
	if a%b != 0 {
		n++
	}
	return n, api.OK
}

// Place is a tick's place in its frame, and which frame that is.
func Place(t, frame uint64) (place, turn uint64, e api.Errno) {
	if frame == 0 {
		return 0, 0, api.ErrZero
	}
	return t % frame, t / frame, api.OK
}

// Next is the first tick from t on that has a place in its frame.
func Next(t, frame, place uint64) (uint64, api.Errno) {
	if frame == 0 {
		return 0, api.ErrZero
	}
	if place >= frame {
		return 0, api.ErrArg
	}
	return Add(t, way(t%frame, place, frame))
}

// way is how many ticks it takes from a place to another one, into the next frame if need be; both are below frame.
func way(from, to, frame uint64) uint64 {
	if from <= to {
		return to - from
	}
	return frame - (from - to)
}

// May tells why a window may not be one of a frame.
func May(w api.Window, frame uint64) api.Errno {
	if frame == 0 {
		return api.ErrZero
	}
	// The window's end is not added up, for it may lie beyond 2^64 - 1.
	if w.Length == 0 || w.Length > frame || w.Start > frame-w.Length {
		return api.ErrArg
	}
	return api.OK
}

// inside tells whether a place is one of a window's.
func inside(place uint64, w api.Window) bool {
	return place >= w.Start && place-w.Start < w.Length
}

// passed is how many ticks of a window lie below a place of the same frame.
func passed(place uint64, w api.Window) uint64 {
	if place <= w.Start {
		return 0
	}
	return min(place-w.Start, w.Length)
}

// ahead is how many ticks below t are inside a window that may be one of the frame; as these are among t ticks, it does not wrap.
func ahead(t, frame uint64, w api.Window) uint64 {
	return t/frame*w.Length + passed(t%frame, w)
}

// Left is how many ticks of a window are left at t, t among them; 0: t is outside.
func Left(t, frame uint64, w api.Window) (uint64, api.Errno) {
	if e := May(w, frame); e != api.OK {
		return 0, e
	}
	place := t % frame
	if !inside(place, w) {
		return 0, api.OK
	}
	return w.Length - (place - w.Start), api.OK
}

// Count is how many of n ticks from t on are inside a window.
func Count(t, n, frame uint64, w api.Window) (uint64, api.Errno) {
	if e := May(w, frame); e != api.OK {
		return 0, e
	}
	if n == 0 {
		return 0, api.OK
	}
	// The end is the last one counted, not the one behind it: that one may be beyond the last tick.
	end, e := Add(t, n-1)
	if e != api.OK {
		return 0, e
	}
	count := ahead(end, frame, w) - ahead(t, frame, w)
	if inside(end%frame, w) {
		count++
	}
	return count, api.OK
}

// Nth is the tick inside a window, from t on, that k others inside come ahead of.
func Nth(t, k, frame uint64, w api.Window) (uint64, api.Errno) {
	if e := May(w, frame); e != api.OK {
		return 0, e
	}
	// There are at most 2^64 ticks inside in all, so a number that can't be told is nobody's.
	number, e := Add(ahead(t, frame, w), k)
	if e != api.OK {
		return 0, e
	}
	turn := number / w.Length
	if turn > last/frame {
		return 0, api.ErrEnd
	}
	return Add(turn*frame, w.Start+number%w.Length)
}
