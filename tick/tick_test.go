package tick_test

import (
	"math/big"
	"testing"

	"rota/api"
	"rota/tick"
)

// A1: Add.

func TestAdd(t *testing.T) {
	for _, c := range []struct {
		a, b uint64
		want number
	}{
		{0, 0, number{0, api.OK}},
		{2, 3, number{5, api.OK}},
		{last, 0, number{last, api.OK}},
		{0, last, number{last, api.OK}},
		{last - 1, 1, number{last, api.OK}},
		{1 << 63, 1<<63 - 1, number{last, api.OK}},
		{last, 1, number{0, api.ErrEnd}},
		{1, last, number{0, api.ErrEnd}},
		{1 << 63, 1 << 63, number{0, api.ErrEnd}},
		{last, last, number{0, api.ErrEnd}},
	} {
		if got := told(tick.Add(c.a, c.b)); got != c.want {
			t.Errorf("Add(%d, %d): %v, not %v", c.a, c.b, got, c.want)
		}
	}
}

func TestAddAtEdges(t *testing.T) {
	for _, a := range edges {
		for _, b := range edges {
			want := bounded(new(big.Int).Add(wide(a), wide(b)))
			if got := told(tick.Add(a, b)); got != want {
				t.Errorf("Add(%d, %d): %v, not %v", a, b, got, want)
			}
		}
	}
}

// A1: Up.

func TestUp(t *testing.T) {
	for _, c := range []struct {
		a, b uint64
		want number
	}{
		{7, 3, number{3, api.OK}},
		{6, 3, number{2, api.OK}},
		{0, 3, number{0, api.OK}},
		{1, last, number{1, api.OK}},
		{last, 1, number{last, api.OK}},
		{last, 2, number{1 << 63, api.OK}},
		{last, 1 << 63, number{2, api.OK}},
		{last, last - 1, number{2, api.OK}},
		{last, last, number{1, api.OK}},
		{1, 0, number{0, api.ErrZero}},
		{0, 0, number{0, api.ErrZero}},
		{last, 0, number{0, api.ErrZero}},
	} {
		if got := told(tick.Up(c.a, c.b)); got != c.want {
			t.Errorf("Up(%d, %d): %v, not %v", c.a, c.b, got, c.want)
		}
	}
}

func TestUpIsTheLeast(t *testing.T) {
	for _, a := range edges {
		for _, b := range edges[1:] {
			n, e := tick.Up(a, b)
			if e != api.OK {
				t.Errorf("Up(%d, %d): %d", a, b, e)
			}
			whole := new(big.Int).Mul(wide(n), wide(b))
			if whole.Cmp(wide(a)) < 0 {
				t.Errorf("Up(%d, %d): %d is too few", a, b, n)
			}
			if n > 0 && whole.Sub(whole, wide(b)).Cmp(wide(a)) >= 0 {
				t.Errorf("Up(%d, %d): %d is not the least", a, b, n)
			}
		}
	}
}

// A2: Place.

func TestPlace(t *testing.T) {
	for _, c := range []struct {
		t, frame, place, turn uint64
		e                     api.Errno
	}{
		{17, 5, 2, 3, api.OK},
		{0, 5, 0, 0, api.OK},
		{4, 5, 4, 0, api.OK},
		{5, 5, 0, 1, api.OK},
		{last, 1, 0, last, api.OK},
		{last, 5, 0, last / 5, api.OK},
		{last, last, 0, 1, api.OK},
		{last - 1, last, last - 1, 0, api.OK},
		{0, 0, 0, 0, api.ErrZero},
		{last, 0, 0, 0, api.ErrZero},
	} {
		place, turn, e := tick.Place(c.t, c.frame)
		if place != c.place || turn != c.turn || e != c.e {
			t.Errorf("Place(%d, %d): %d, %d, %d", c.t, c.frame, place, turn, e)
		}
	}
}

// A6: Place's numbers make t again.
func TestPlaceMakesTheTickAgain(t *testing.T) {
	for _, at := range edges {
		for _, frame := range edges[1:] {
			place, turn, e := tick.Place(at, frame)
			if e != api.OK || place >= frame {
				t.Errorf("Place(%d, %d): %d, %d, %d", at, frame, place, turn, e)
			}
			made := new(big.Int).Mul(wide(turn), wide(frame))
			if made.Add(made, wide(place)).Cmp(wide(at)) != 0 {
				t.Errorf("Place(%d, %d): %d, %d do not make it again", at, frame, place, turn)
			}
		}
	}
}

// A2: Next.

func TestNext(t *testing.T) {
	for _, c := range []struct {
		t, frame, place uint64
		want            number
	}{
		{17, 5, 1, number{21, api.OK}},
		{16, 5, 1, number{16, api.OK}},
		{17, 5, 4, number{19, api.OK}},
		{0, 5, 0, number{0, api.OK}},
		{last, 1, 0, number{last, api.OK}},
		{last, 5, 0, number{last, api.OK}},
		{last - 4, 5, 0, number{last, api.OK}},
		{last - 4, 5, 4, number{last - 1, api.OK}},
		{last - 4, 5, 1, number{last - 4, api.OK}},
		{last - 3, 5, 1, number{0, api.ErrEnd}},
		{last, 5, 1, number{0, api.ErrEnd}},
		{last, last, last - 1, number{0, api.ErrEnd}},
		{1, last, 0, number{last, api.OK}},
		{1, 1 << 63, 0, number{1 << 63, api.OK}},
		{1<<63 + 1, 1 << 63, 0, number{0, api.ErrEnd}},
		{1, 5, 5, number{0, api.ErrArg}},
		{last, 5, last, number{0, api.ErrArg}},
		{last, last, last, number{0, api.ErrArg}},
		{1, 0, 0, number{0, api.ErrZero}},
		{1, 0, 1, number{0, api.ErrZero}},
		{last, 0, last, number{0, api.ErrZero}},
	} {
		if got := told(tick.Next(c.t, c.frame, c.place)); got != c.want {
			t.Errorf("Next(%d, %d, %d): %v, not %v", c.t, c.frame, c.place, got, c.want)
		}
	}
}

func TestNextTickByTick(t *testing.T) {
	for frame := uint64(1); frame <= 7; frame++ {
		for place := range frame {
			for _, at := range spots(20) {
				if got, want := told(tick.Next(at, frame, place)), firstAt(at, frame, place); got != want {
					t.Errorf("Next(%d, %d, %d): %v, not %v", at, frame, place, got, want)
				}
			}
		}
	}
}

func TestNextAtEdges(t *testing.T) {
	for _, at := range edges {
		for _, frame := range edges[1:] {
			for _, place := range edges {
				if place >= frame {
					continue
				}
				u := new(big.Int).Sub(wide(at), wide(at%frame))
				u.Add(u, wide(place))
				if u.Cmp(wide(at)) < 0 {
					u.Add(u, wide(frame))
				}
				if got, want := told(tick.Next(at, frame, place)), bounded(u); got != want {
					t.Errorf("Next(%d, %d, %d): %v, not %v", at, frame, place, got, want)
				}
			}
		}
	}
}

// A3: May, and that the others answer it first.

func TestMay(t *testing.T) {
	for _, c := range []struct {
		w     api.Window
		frame uint64
		want  api.Errno
	}{
		{window(2, 3), 10, api.OK},
		{window(7, 3), 10, api.OK},
		{window(0, 10), 10, api.OK},
		{window(9, 1), 10, api.OK},
		{window(0, 1), 1, api.OK},
		{window(0, last), last, api.OK},
		{window(last-1, 1), last, api.OK},
		{window(8, 3), 10, api.ErrArg},
		{window(0, 11), 10, api.ErrArg},
		{window(10, 1), 10, api.ErrArg},
		{window(0, 0), 10, api.ErrArg},
		{window(10, 0), 10, api.ErrArg},
		{window(last, 1), last, api.ErrArg},
		{window(1, last), last, api.ErrArg},
		{window(last, last), last, api.ErrArg},
		{window(last, 2), 10, api.ErrArg},
		{window(2, last), 10, api.ErrArg},
		{window(2, last), last, api.ErrArg},
		{window(2, 3), 0, api.ErrZero},
		{window(0, 0), 0, api.ErrZero},
		{window(last, last), 0, api.ErrZero},
	} {
		if got := tick.May(c.w, c.frame); got != c.want {
			t.Errorf("May(%v, %d): %d, not %d", c.w, c.frame, got, c.want)
		}
	}
}

func TestMayAtEdges(t *testing.T) {
	everyWindow(func(w api.Window, frame uint64) {
		want := api.OK
		switch end := new(big.Int).Add(wide(w.Start), wide(w.Length)); {
		case frame == 0:
			want = api.ErrZero
		case w.Length == 0 || end.Cmp(wide(frame)) > 0:
			want = api.ErrArg
		}
		if got := tick.May(w, frame); got != want {
			t.Errorf("May(%v, %d): %d, not %d", w, frame, got, want)
		}
	})
}

func TestMayIsAnsweredFirst(t *testing.T) {
	everyWindow(func(w api.Window, frame uint64) {
		e := tick.May(w, frame)
		if e == api.OK {
			return
		}
		want := number{0, e}
		for _, at := range []uint64{0, 2, last} {
			if got := told(tick.Left(at, frame, w)); got != want {
				t.Errorf("Left(%d, %d, %v): %v, not %v", at, frame, w, got, want)
			}
			for _, n := range []uint64{0, 1, 2, last} {
				if got := told(tick.Count(at, n, frame, w)); got != want {
					t.Errorf("Count(%d, %d, %d, %v): %v, not %v", at, n, frame, w, got, want)
				}
				if got := told(tick.Nth(at, n, frame, w)); got != want {
					t.Errorf("Nth(%d, %d, %d, %v): %v, not %v", at, n, frame, w, got, want)
				}
			}
		}
	})
}

// A4: Left.

func TestLeft(t *testing.T) {
	for _, c := range []struct {
		t, frame uint64
		w        api.Window
		want     uint64
	}{
		{12, 10, window(2, 3), 3},
		{13, 10, window(2, 3), 2},
		{14, 10, window(2, 3), 1},
		{15, 10, window(2, 3), 0},
		{11, 10, window(2, 3), 0},
		{0, 10, window(0, 10), 10},
		{19, 10, window(0, 10), 1},
		{last, 1, window(0, 1), 1},
		{last, last, window(0, last), last},
		{last - 1, last, window(0, last), 1},
		{last, 10, window(5, 5), 5},
		{last, 10, window(3, 4), 2},
		{last, 10, window(0, 5), 0},
	} {
		if got := told(tick.Left(c.t, c.frame, c.w)); got != (number{c.want, api.OK}) {
			t.Errorf("Left(%d, %d, %v): %v, not %d", c.t, c.frame, c.w, got, c.want)
		}
	}
}

// A5: Count.

func TestCount(t *testing.T) {
	w := window(2, 3)
	for _, c := range []struct {
		t, n, frame uint64
		w           api.Window
		want        number
	}{
		{0, 25, 10, w, number{9, api.OK}},
		{3, 10, 10, w, number{3, api.OK}},
		{4, 9, 10, w, number{2, api.OK}},
		{5, 7, 10, w, number{0, api.OK}},
		{5, 8, 10, w, number{1, api.OK}},
		{2, 1, 10, w, number{1, api.OK}},
		{2, 0, 10, w, number{0, api.OK}},
		{last, 0, 10, w, number{0, api.OK}},
		{last, 1, 10, window(5, 1), number{1, api.OK}},
		{last, 1, 10, w, number{0, api.OK}},
		{last, 2, 10, w, number{0, api.ErrEnd}},
		{last - 9, 10, 10, w, number{3, api.OK}},
		{last - 9, 11, 10, w, number{0, api.ErrEnd}},
		{0, last, 1, window(0, 1), number{last, api.OK}},
		{1, last, 1, window(0, 1), number{last, api.OK}},
		{2, last, 1, window(0, 1), number{0, api.ErrEnd}},
		{last, last, 1, window(0, 1), number{0, api.ErrEnd}},
		{1, last, last, window(0, last), number{last, api.OK}},
		{0, last, last, window(last-1, 1), number{1, api.OK}},
	} {
		if got := told(tick.Count(c.t, c.n, c.frame, c.w)); got != c.want {
			t.Errorf("Count(%d, %d, %d, %v): %v, not %v", c.t, c.n, c.frame, c.w, got, c.want)
		}
	}
}

// A5: Nth.

func TestNth(t *testing.T) {
	w := window(2, 3)
	for _, c := range []struct {
		t, k, frame uint64
		w           api.Window
		want        number
	}{
		{0, 3, 10, w, number{12, api.OK}},
		{3, 0, 10, w, number{3, api.OK}},
		{3, 1, 10, w, number{4, api.OK}},
		{3, 2, 10, w, number{12, api.OK}},
		{5, 0, 10, w, number{12, api.OK}},
		{0, last, 1, window(0, 1), number{last, api.OK}},
		{1, last - 1, 1, window(0, 1), number{last, api.OK}},
		{1, last, 1, window(0, 1), number{0, api.ErrEnd}},
		{last, 0, 1, window(0, 1), number{last, api.OK}},
		{last, 1, 1, window(0, 1), number{0, api.ErrEnd}},
		{last, last, 1, window(0, 1), number{0, api.ErrEnd}},
		{last, 0, 10, window(5, 5), number{last, api.OK}},
		{last, 1, 10, window(5, 5), number{0, api.ErrEnd}},
		{last, 0, 10, w, number{0, api.ErrEnd}},
		{last - 2, 0, 10, w, number{last - 2, api.OK}},
		{last - 1, 0, 10, w, number{last - 1, api.OK}},
		{last, 0, 10, window(3, 3), number{last, api.OK}},
		{1, 0, last, window(0, 1), number{last, api.OK}},
		{1, 1, last, window(0, 1), number{0, api.ErrEnd}},
		{0, 2, last, window(last-1, 1), number{0, api.ErrEnd}},
		{0, last, last, window(0, last), number{last, api.OK}},
		{0, last, 10, w, number{0, api.ErrEnd}},
	} {
		if got := told(tick.Nth(c.t, c.k, c.frame, c.w)); got != c.want {
			t.Errorf("Nth(%d, %d, %d, %v): %v, not %v", c.t, c.k, c.frame, c.w, got, c.want)
		}
	}
}
