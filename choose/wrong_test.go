package choose_test

import (
	"slices"
	"testing"

	"rota/api"
	"rota/channel"
)

// TestNoChannel: S3: a handle that is no channel's, in any place among the cases, ahead of what goes on, and of the default: nothing is done.
func TestNoChannel(t *testing.T) {
	state := []api.ChanState{open(2, no, no, 5), open(0, all(waiting(a, 3, 7)), no), shut(1, 8), open(0, no, no)}
	good := of(recv(1), send(1, 6), recv(2), recv(0), send(3, 1), recv(4))
	for _, ch := range noChannels(int64(len(state))) {
		for n := range len(good) + 1 {
			for at := range n + 1 {
				for _, wrong := range []api.Pick{recv(ch), send(ch, 9)} {
					l := slices.Insert(slices.Clone(good[:n]), at, wrong)
					for _, def := range []bool{false, true} {
						x := load(t, state...)
						selects(t, x, l, def, zeros(n+1), noChannel())
						selects(t, x, l, def, drawn(0, 1, 2, 3, 4, 5, 6), noChannel())
						tells(t, "no channel", x, state...)
					}
				}
			}
		}
	}
	// Behind one that would wait, or among cases of nil, it is none too.
	x := load(t, state...)
	selects(t, x, of(recv(4), recv(0), recv(5)), false, zeros(3), noChannel())
	selects(t, x, append(nils(most-1), recv(-1)), true, zeros(most), noChannel())
	tells(t, "no channel", x, state...)
	// There is no channel at all, but nil is none of them.
	x = channel.New()
	selects(t, x, of(recv(1)), true, zeros(1), noChannel())
	selects(t, x, of(recv(0), send(0, 1)), true, zeros(2), byDefault())
	selects(t, x, of(recv(0), send(0, 1)), false, zeros(2), blocked())
}

// TestHandlesOfNewChannels: S3: what is no channel's is one's, when it was made.
func TestHandlesOfNewChannels(t *testing.T) {
	x := channel.New()
	for n := range int64(5) {
		selects(t, x, of(send(n+1, n)), true, zeros(1), noChannel())
		x.Make(1)
		selects(t, x, of(send(n+1, n)), true, zeros(1), went(0, passed()))
	}
}

// TestTooManyCases: S3: 17 cases and more are ErrArg, whatever else is wrong.
func TestTooManyCases(t *testing.T) {
	state := []api.ChanState{open(1, no, no, 5), open(0, no, all(waiting(b, 0, 0)))}
	x := load(t, state...)
	for _, n := range []int{most + 1, most + 2, 100} {
		for _, p := range []api.Pick{{}, recv(1), send(2, 3), recv(77)} {
			for _, g := range []api.Gid{me, b} {
				for _, draws := range [][]uint64{nil, zeros(most), zeros(n)} {
					refuses(t, x, g, repeated(n, p), false, draws, api.ErrArg)
					refuses(t, x, g, repeated(n, p), true, draws, api.ErrArg)
				}
			}
		}
	}
	tells(t, "too many cases", x, state...)
}

// TestTooFewDraws: S3: fewer draws than cases are ErrDraws, ahead of ErrWaits and of all that is done, where it would not matter too.
func TestTooFewDraws(t *testing.T) {
	state := []api.ChanState{open(1, no, no, 5), open(0, no, all(waiting(b, 0, 0)))}
	x := load(t, state...)
	for n := 1; n <= most; n++ {
		for _, p := range []api.Pick{{}, recv(1), send(2, 3), recv(77)} {
			for _, g := range []api.Gid{me, b} {
				for _, def := range []bool{false, true} {
					refuses(t, x, g, repeated(n, p), def, zeros(n-1), api.ErrDraws)
					refuses(t, x, g, repeated(n, p), def, nil, api.ErrDraws)
				}
			}
		}
	}
	tells(t, "too few draws", x, state...)
}

// TestWhichRefusal: S3, R2: ErrArg ahead of ErrDraws ahead of ErrWaits ahead of TrapChan ahead of what goes on: all of them together, and the first one mended each time.
func TestWhichRefusal(t *testing.T) {
	state := []api.ChanState{open(1, no, no, 5), open(0, no, all(waiting(b, 0, 0)))}
	x := load(t, state...)
	many := append(repeated(most, recv(1)), recv(3))
	refuses(t, x, b, many, true, zeros(1), api.ErrArg)
	refuses(t, x, b, many[1:], true, zeros(most-1), api.ErrDraws)
	refuses(t, x, b, many[1:], true, zeros(most), api.ErrWaits)
	selectsBy(t, x, me, many[1:], true, zeros(most), noChannel())
	tells(t, "refused", x, state...)
	selectsBy(t, x, me, many[:most], true, zeros(most), went(most-1, got(5)))
	selectsBy(t, x, me, many[:most], true, zeros(most), byDefault())
}

// nobodys is channels that nobody made.
func nobodys() []*channel.Chans {
	var none *channel.Chans
	var plain channel.Chans
	return []*channel.Chans{none, &plain, new(channel.Chans), {}}
}

// TestNotMade: S3: of channels that nobody made: the errors; TrapChan, if there is a case, of nil too; else the default, or it waits.
func TestNotMade(t *testing.T) {
	for _, x := range nobodys() {
		for range 2 {
			for _, def := range []bool{false, true} {
				for n := 1; n <= most; n++ {
					for _, ch := range append(noChannels(0), 0, 1, 2) {
						for _, p := range []api.Pick{recv(ch), send(ch, 4)} {
							l := repeated(n, p)
							selects(t, x, l, def, zeros(n), noChannel())
							selects(t, x, l, def, zeros(n+3), noChannel())
							refuses(t, x, me, l, def, zeros(n-1), api.ErrDraws)
						}
					}
				}
				selects(t, x, of(recv(0), send(0, 5), recv(1)), def, zeros(3), noChannel())
				refuses(t, x, me, nils(most+1), def, zeros(most+1), api.ErrArg)
				refuses(t, x, me, nils(most+1), def, nil, api.ErrArg)
			}
			for _, l := range [][]api.Pick{nil, {}} {
				for _, draws := range [][]uint64{nil, zeros(2)} {
					selects(t, x, l, true, draws, byDefault())
					selects(t, x, l, false, draws, blocked())
				}
			}
			if x.Waits(me) || len(x.State()) != 0 {
				t.Errorf("something was kept: %+v", x.State())
			}
		}
	}
}

// TestAnyNumbers: R1, R2: selects of odd goroutines and odd numbers end and are refused as others are.
func TestAnyNumbers(t *testing.T) {
	for _, g := range everybody() {
		x := load(t, open(0, no, no), open(1, no, no))
		selectsBy(t, x, g, of(recv(1), send(0, -1)), false, drawn(greatest, greatest), blocked())
		tells(t, "an odd goroutine", x, open(0, no, all(waiting(g, 0, 0))), open(1, no, no))
		refuses(t, x, g, of(send(2, 1)), false, drawn(greatest), api.ErrWaits)
		selectsBy(t, x, api.Gid{Slot: g.Slot, Gen: g.Gen + 1}, of(send(1, -1)), false, drawn(greatest), went(0, passed(handed(g, 0, -1))))
	}
}

// TestBehindOddWaits: R1: behind a Wait that may not be a select ends still, and panics not.
func TestBehindOddWaits(t *testing.T) {
	for _, s := range []api.ChanState{open(0, no, no), open(1, no, no), open(2, no, no, 5), shut(0), shut(1, 5)} {
		for n := range 1 << 6 {
			x := load(t, s, s)
			for _, g := range []api.Gid{a, b, a} {
				x.Wait(int64(1+n>>1&1), waiting(g, n, 3), n&1 == 0)
				n >>= 2
			}
			for _, order := range everyOrder(3) {
				for _, g := range []api.Gid{me, a, b} {
					l := of(recv(1), send(2, 4), send(1, 5))
					selectsAnything(x, g, l, drawsOf(t, order))
				}
			}
		}
	}
}
