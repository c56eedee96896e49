package tick_test

import (
	"math/big"

	"rota/api"
)

// last is the last tick.
const last uint64 = 1<<64 - 1

// edges are the numbers at which sums, products and frames come to their ends.
var edges = []uint64{0, 1, 2, 3, 5, 7, 10, 1<<32 - 1, 1 << 32, 1<<32 + 1, last / 5, last / 3, 1<<63 - 1, 1 << 63, 1<<63 + 1, last - 2, last - 1, last}

// number is a result of one number and an error.
type number struct {
	n uint64
	e api.Errno
}

// told makes a number of what a call answers.
func told(n uint64, e api.Errno) number { return number{n, e} }

// window is a window in short.
func window(start, length uint64) api.Window { return api.Window{Start: start, Length: length} }

// wide is a number without a bound.
func wide(n uint64) *big.Int { return new(big.Int).SetUint64(n) }

// bounded is a number without a bound as an answer: ErrEnd beyond the last tick.
func bounded(n *big.Int) number {
	if !n.IsUint64() {
		return number{0, api.ErrEnd}
	}
	return number{n.Uint64(), api.OK}
}

// spots are the n first ticks and the n last ones.
func spots(n uint64) []uint64 {
	var l []uint64
	for i := range n {
		l = append(l, i, last-i)
	}
	return l
}

// everyWindow calls do with all windows and frames of edges, those that may not be too.
func everyWindow(do func(w api.Window, frame uint64)) {
	for _, start := range edges {
		for _, length := range edges {
			for _, frame := range edges {
				do(window(start, length), frame)
			}
		}
	}
}

// firstAt looks for the least tick from t on with a place by going on tick by tick.
func firstAt(t, frame, place uint64) number {
	for u := t; ; u++ {
		if u%frame == place {
			return number{u, api.OK}
		}
		if u == last {
			return number{0, api.ErrEnd}
		}
	}
}

// within tells by the words of the document whether a tick is inside a window whose end does not wrap.
func within(t, frame uint64, w api.Window) bool {
	place := t % frame
	return place >= w.Start && place < w.Start+w.Length
}

// leftByPlaces counts the places from t's on to the window's end.
func leftByPlaces(t, frame uint64, w api.Window) number {
	n := uint64(0)
	if within(t, frame, w) {
		for place := t % frame; place < w.Start+w.Length; place++ {
			n++
		}
	}
	return number{n, api.OK}
}

// countByTicks looks at each of n ticks from t on.
func countByTicks(t, n, frame uint64, w api.Window) number {
	count := uint64(0)
	for i := range n {
		if i > last-t {
			return number{0, api.ErrEnd}
		}
		if within(t+i, frame, w) {
			count++
		}
	}
	return number{count, api.OK}
}

// nthByTicks goes on from t till k ticks inside have passed and another one comes.
func nthByTicks(t, k, frame uint64, w api.Window) number {
	for u := t; ; u++ {
		if within(u, frame, w) {
			if k == 0 {
				return number{u, api.OK}
			}
			k--
		}
		if u == last {
			return number{0, api.ErrEnd}
		}
	}
}

// below is how many ticks below x are inside a window, in numbers without a bound.
func below(x *big.Int, frame uint64, w api.Window) *big.Int {
	turn, place := new(big.Int).DivMod(x, wide(frame), new(big.Int))
	place.Sub(place, wide(w.Start))
	switch {
	case place.Sign() < 0:
		place.SetInt64(0)
	case place.Cmp(wide(w.Length)) > 0:
		place.SetUint64(w.Length)
	}
	return place.Add(place, turn.Mul(turn, wide(w.Length)))
}

// between is how many ticks from t on below x are inside.
func between(t uint64, x *big.Int, frame uint64, w api.Window) *big.Int {
	n := below(x, frame, w)
	return n.Sub(n, below(wide(t), frame, w))
}

// behind is the number behind the last tick.
func behind() *big.Int { return new(big.Int).Add(wide(last), wide(1)) }

// smallWindows calls do with all windows of all frames up to most ticks.
func smallWindows(most uint64, do func(w api.Window, frame uint64)) {
	for frame := uint64(1); frame <= most; frame++ {
		for start := range frame {
			for length := uint64(1); start+length <= frame; length++ {
				do(window(start, length), frame)
			}
		}
	}
}

// properWindows calls do with those windows of edges that may be.
func properWindows(do func(w api.Window, frame uint64)) {
	everyWindow(func(w api.Window, frame uint64) {
		end := new(big.Int).Add(wide(w.Start), wide(w.Length))
		if w.Length > 0 && end.Cmp(wide(frame)) <= 0 {
			do(w, frame)
		}
	})
}
