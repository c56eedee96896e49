package ring_test

import (
	"slices"
	"testing"

	"rota/api"
	"rota/ring"
)

// begins are places of the array at which the oldest one stands: at its beginning, and where the places go round its end.
var begins = []int{0, 1, 31, 32, 33, 63, 64, 100}

func TestNewAndLoad(t *testing.T) {
	holds(t, "New", ring.New(), api.RingState{})
	top := uint64(1<<64 - 1)
	for _, c := range []struct {
		what string
		s    api.RingState
		e    api.Errno
	}{
		{"nothing", api.RingState{}, api.OK},
		{"no places, but not nil", alone([]api.Waiting{}), api.OK},
		{"turn 0", alone(list(0)), api.OK},
		{"the least and the greatest turn", with(list(0, 1), top), api.OK},
		{"places", alone(list(3, 5, 9)), api.OK},
		{"places and a next one", with(list(3, 5, 9), 10), api.OK},
		{"a next one alone", with(nil, 0), api.OK},
		{"all places", alone(span(1, size)), api.OK},
		{"all places and a next one", with(span(1, size), size+1), api.OK},
		{"one place too many", alone(span(1, size+1)), api.ErrFull},
		{"too many, that do not rise", alone(make([]api.Waiting, size+1)), api.ErrFull},
		{"far too many", alone(make([]api.Waiting, 1000)), api.ErrFull},
		{"a turn twice", alone(list(1, 2, 2)), api.ErrOrder},
		{"a turn that falls", alone(list(5, 4)), api.ErrOrder},
		{"the last turn falls below one that is not its neighbour", alone(list(1, 5, 3)), api.ErrOrder},
		{"the greatest turn ahead of the least", alone(list(top, 0)), api.ErrOrder},
		{"a next one as late as the last place", with(list(4), 4), api.ErrOrder},
		{"a next one ahead of the last place", with(list(4, 8), 6), api.ErrOrder},
		{"a next one behind places that fall", with(list(8, 4), 9), api.ErrOrder},
	} {
		r, e := ring.Load(c.s)
		if e != c.e || (r != nil) != (c.e == api.OK) {
			t.Errorf("%s: %d, %v, not %d", c.what, e, r, c.e)
		} else if e == api.OK {
			holds(t, c.what, r, c.s)
		}
	}
	// A Next is looked at if Has alone: its turn may be any, and it is not told.
	for _, turn := range []uint64{0, 4, 9} {
		r, e := ring.Load(api.RingState{Places: list(4), Next: w(turn)})
		if e != api.OK {
			t.Fatalf("Next %d without Has: %d", turn, e)
		}
		holds(t, "without Has", r, alone(list(4)))
		if x, next, e := r.Take(); x != w(4) || next || e != api.OK {
			t.Errorf("Take without Has: %v, %v, %d", x, next, e)
		}
	}
}

// TestNamesAreNotAsked: turns alone are, so that a name may stand twice, and may be nobody's.
func TestNamesAreNotAsked(t *testing.T) {
	g := api.Gid{Slot: -3, Gen: -4}
	a, b, c := api.Waiting{G: g, Turn: 1}, api.Waiting{G: g, Turn: 2}, api.Waiting{G: g, Turn: 3}
	s := api.RingState{Places: []api.Waiting{a, b}, Has: true, Next: c}
	r, e := ring.Load(s)
	if e != api.OK {
		t.Fatalf("Load: %d", e)
	}
	holds(t, "Load", r, s)
	holds(t, "Put and Ready", loaded(t, s, 0), s)
}

func TestFirstExample(t *testing.T) {
	r := ring.New()
	for n := range uint64(3) {
		if left, e := r.Put(w(n + 1)); e != api.OK || len(left) > 0 {
			t.Fatalf("Put(%d): %v, %d", n+1, left, e)
		}
	}
	holds(t, "Put", r, alone(list(1, 2, 3)))
	if left, e := r.Ready(w(4)); e != api.OK || len(left) > 0 {
		t.Fatalf("Ready(4): %v, %d", left, e)
	}
	holds(t, "Ready(4)", r, with(list(1, 2, 3), 4))
	if left, e := r.Ready(w(5)); e != api.OK || len(left) > 0 {
		t.Fatalf("Ready(5): %v, %d", left, e)
	}
	holds(t, "Ready(5)", r, with(list(1, 2, 3, 4), 5))
	for _, n := range []uint64{5, 1, 2, 3, 4} {
		if x, next, e := r.Take(); x != w(n) || next != (n == 5) || e != api.OK {
			t.Errorf("Take: %v, %v, %d, not %d", x, next, e, n)
		}
	}
	if x, next, e := r.Take(); x != (api.Waiting{}) || next || e != api.ErrEmpty {
		t.Errorf("Take of nothing: %v, %v, %d, not ErrEmpty", x, next, e)
	}
	holds(t, "Take of nothing", r, api.RingState{})
}

// change is a call of Put or Ready: the turn, what leaves, the error, and the state behind it.
type change struct {
	what  string
	s     api.RingState
	turn  uint64
	left  []api.Waiting
	e     api.Errno
	after api.RingState
}

// changes carries out calls on rings whose oldest place stands anywhere.
func changes(t *testing.T, call func(*ring.Ring, api.Waiting) ([]api.Waiting, api.Errno), cases []change) {
	t.Helper()
	for _, c := range cases {
		for _, begin := range begins {
			r := loaded(t, c.s, begin)
			left, e := call(r, w(c.turn))
			if e != c.e || !slices.Equal(left, c.left) {
				t.Errorf("%s, from %d on: %v, %d, not %v, %d", c.what, begin, left, e, c.left, c.e)
			}
			holds(t, c.what, r, c.after)
		}
	}
}

// refused is a change that answers ErrOrder, and changes nothing.
func refused(what string, s api.RingState, turn uint64) change {
	return change{what, s, turn, nil, api.ErrOrder, s}
}

func TestPut(t *testing.T) {
	full := span(101, 100+size)
	left := func(turn uint64) []api.Waiting { return append(span(101, 132), w(turn)) }
	changes(t, (*ring.Ring).Put, []change{
		{"into nothing", api.RingState{}, 0, nil, api.OK, alone(list(0))},
		{"behind one", alone(list(101)), 102, nil, api.OK, alone(list(101, 102))},
		{"far behind", alone(list(101)), 1<<64 - 1, nil, api.OK, alone(list(101, 1<<64-1))},
		{"ahead of a next one alone", with(nil, 105), 104, nil, api.OK, with(list(104), 105)},
		{"between the last place and the next one", with(list(101), 105), 103, nil, api.OK, with(list(101, 103), 105)},
		{"into the last free place", alone(full[:size-1]), 100 + size, nil, api.OK, alone(full)},
		{"into the last free place, with a next one", with(full[:size-1], 500), 100 + size, nil, api.OK, with(full, 500)},
		{"into a full ring", alone(full), 165, left(165), api.OK, alone(span(133, 164))},
		{"into a full ring with a next one", with(full, 170), 169, left(169), api.OK, with(span(133, 164), 170)},
		refused("as late as the last place", alone(list(101, 102)), 102),
		refused("ahead of the last place", alone(list(101, 103)), 102),
		refused("ahead of all places", alone(list(101, 103)), 7),
		refused("as late as the next one", with(list(101), 105), 105),
		refused("behind the next one", with(list(101), 105), 106),
		refused("behind a next one alone", with(nil, 105), 106),
		refused("as late as a next one alone", with(nil, 0), 0),
		refused("as late as the last place, with a next one", with(list(101), 105), 101),
		refused("into a full ring, not above", alone(full), 164),
		refused("into a full ring, not below the next one", with(full, 170), 170),
	})
}

func TestReady(t *testing.T) {
	full := span(101, 100+size)
	left := append(span(101, 132), w(170))
	changes(t, (*ring.Ring).Ready, []change{
		{"into nothing", api.RingState{}, 0, nil, api.OK, with(nil, 0)},
		{"behind a place", alone(list(101)), 102, nil, api.OK, with(list(101), 102)},
		{"behind a next one alone", with(nil, 103), 104, nil, api.OK, with(list(103), 104)},
		{"behind a place and a next one", with(list(101), 103), 1<<64 - 1, nil, api.OK, with(list(101, 103), 1<<64-1)},
		{"the last free place is taken", with(full[:size-1], 100+size), 500, nil, api.OK, with(full, 500)},
		{"all places are taken, no next one", alone(full), 165, nil, api.OK, with(full, 165)},
		{"all places are taken, and a next one", with(full, 170), 171, left, api.OK, with(span(133, 164), 171)},
		refused("as late as the last place", alone(list(101, 102)), 102),
		refused("ahead of the last place", alone(list(101, 103)), 102),
		refused("as late as the next one", with(list(101), 105), 105),
		refused("between the last place and the next one", with(list(101), 105), 103),
		refused("ahead of a next one alone", with(nil, 105), 104),
		refused("as late as a next one alone", with(nil, 0), 0),
		refused("all places are taken, not above the next one", with(full, 170), 170),
		refused("all places are taken, not above the last one", alone(full), 164),
	})
}

func TestKick(t *testing.T) {
	full := span(101, 100+size)
	kick := func(r *ring.Ring, _ api.Waiting) ([]api.Waiting, api.Errno) { return r.Kick(), api.OK }
	changes(t, kick, []change{
		{"nothing", api.RingState{}, 0, nil, api.OK, api.RingState{}},
		{"no next one", alone(list(101, 102)), 0, nil, api.OK, alone(list(101, 102))},
		{"a next one alone", with(nil, 105), 0, nil, api.OK, alone(list(105))},
		{"places and a next one", with(list(101, 102), 105), 0, nil, api.OK, alone(list(101, 102, 105))},
		{"the last free place", with(full[:size-1], 300), 0, nil, api.OK, alone(append(span(101, 163), w(300)))},
		{"all places are taken", with(full, 170), 0, append(span(101, 132), w(170)), api.OK, alone(span(133, 164))},
		{"all places are taken, no next one", alone(full), 0, nil, api.OK, alone(full)},
	})
}

func TestTakeAndDrain(t *testing.T) {
	for _, s := range []api.RingState{
		{}, alone(list(101)), with(nil, 101), with(list(101), 109), alone(list(101, 104, 106)), with(list(101, 104, 106), 107),
		alone(span(101, 100+size)), with(span(101, 100+size), 900),
	} {
		all := slices.Clone(s.Places)
		if s.Has {
			all = append(all, s.Next)
		}
		for _, begin := range begins {
			r := loaded(t, s, begin)
			if s.Has {
				if x, next, e := r.Take(); x != s.Next || !next || e != api.OK {
					t.Errorf("Take of a next one: %v, %v, %d, not %v", x, next, e, s.Next)
				}
			}
			for i, p := range s.Places {
				holds(t, "Take", r, alone(s.Places[i:]))
				if x, next, e := r.Take(); x != p || next || e != api.OK {
					t.Errorf("Take of a place: %v, %v, %d, not %v", x, next, e, p)
				}
			}
			if x, next, e := r.Take(); x != (api.Waiting{}) || next || e != api.ErrEmpty {
				t.Errorf("Take of nothing: %v, %v, %d, not ErrEmpty", x, next, e)
			}
			r = loaded(t, s, begin)
			if l := r.Drain(); !slices.Equal(l, all) {
				t.Errorf("Drain: %v, not %v", l, all)
			}
			holds(t, "Drain", r, api.RingState{})
			if l := r.Drain(); len(l) > 0 {
				t.Errorf("Drain of nothing: %v", l)
			}
			// Nothing of what was there holds turns back.
			if left, e := r.Put(w(0)); e != api.OK || len(left) > 0 {
				t.Errorf("Put behind Drain: %v, %d", left, e)
			}
		}
	}
}

func TestSteal(t *testing.T) {
	for n := range uint64(size + 1) {
		for _, next := range []bool{false, true} {
			s := alone(span(101, 100+n))
			if next {
				s = with(s.Places, 900)
			}
			for _, begin := range begins {
				stealsHalf(t, s, begin)
			}
		}
	}
}

// stealsHalf steals from a ring of that state, by the words of the document.
func stealsHalf(t *testing.T, s api.RingState, begin int) {
	t.Helper()
	from, to := loaded(t, s, begin), loaded(t, api.RingState{}, size-begin%size)
	x, e := ring.Steal(from, to)
	n := len(s.Places)
	switch {
	case n == 0 && !s.Has:
		if x != (api.Waiting{}) || e != api.ErrEmpty {
			t.Errorf("Steal of nothing: %v, %d", x, e)
		}
	case n == 0:
		if x != s.Next || e != api.OK {
			t.Errorf("Steal of a next one: %v, %d", x, e)
		}
		s = api.RingState{}
	default:
		leave := (n + 1) / 2
		if x != s.Places[0] || e != api.OK {
			t.Errorf("Steal of %d places: %v, %d", n, x, e)
		}
		holds(t, "the thief", to, alone(s.Places[1:leave]))
		s.Places = s.Places[leave:]
	}
	if n == 0 {
		holds(t, "the thief of no places", to, api.RingState{})
	}
	holds(t, "the victim", from, s)
}

func TestStealRefuses(t *testing.T) {
	some := func() *ring.Ring { return loaded(t, with(list(1, 2), 9), 0) }
	none := ring.New
	next := func() *ring.Ring { return loaded(t, with(nil, 9), 0) }
	one := func() *ring.Ring { return loaded(t, alone(list(1)), 0) }
	itself, empty := some(), none()
	for _, c := range []struct {
		what     string
		from, to *ring.Ring
		e        api.Errno
	}{
		{"from itself", itself, itself, api.ErrArg},
		{"from itself, of nothing", empty, empty, api.ErrArg},
		{"from nil", nil, none(), api.ErrArg},
		{"from nil, to one that has something", nil, some(), api.ErrArg},
		{"to nil", some(), nil, api.ErrArg},
		{"to nil, of nothing", none(), nil, api.ErrArg},
		{"both nil", nil, nil, api.ErrArg},
		{"to one with a place", some(), one(), api.ErrBusy},
		{"to one with a next one", some(), next(), api.ErrBusy},
		{"to one that has something, of nothing", none(), one(), api.ErrBusy},
		{"to one with a next one, of nothing", none(), next(), api.ErrBusy},
		{"of nothing", none(), none(), api.ErrEmpty},
	} {
		from, to := c.from.State(), c.to.State()
		if x, e := ring.Steal(c.from, c.to); x != (api.Waiting{}) || e != c.e {
			t.Errorf("%s: %v, %d, not %d", c.what, x, e, c.e)
		}
		holds(t, c.what+": the victim", c.from, from)
		holds(t, c.what+": the thief", c.to, to)
	}
}

// TestNil: of a nil ring every call answers ErrArg beside zeros (those without an error zeros alone).
func TestNil(t *testing.T) {
	var r *ring.Ring
	if s := r.State(); len(s.Places) > 0 || s.Has || s.Next != (api.Waiting{}) {
		t.Errorf("State: %+v", s)
	}
	if n := r.Len(); n != 0 {
		t.Errorf("Len: %d", n)
	}
	if l, e := r.Put(w(1)); len(l) > 0 || e != api.ErrArg {
		t.Errorf("Put: %v, %d", l, e)
	}
	if l, e := r.Ready(w(1)); len(l) > 0 || e != api.ErrArg {
		t.Errorf("Ready: %v, %d", l, e)
	}
	if l := r.Kick(); len(l) > 0 {
		t.Errorf("Kick: %v", l)
	}
	if x, next, e := r.Take(); x != (api.Waiting{}) || next || e != api.ErrArg {
		t.Errorf("Take: %v, %v, %d", x, next, e)
	}
	if l := r.Drain(); len(l) > 0 {
		t.Errorf("Drain: %v", l)
	}
}

// TestPlain: a ring that nobody made is as New makes it, whichever call comes first.
func TestPlain(t *testing.T) {
	holds(t, "plain", &ring.Ring{}, api.RingState{})
	var put, ready, stolen, thief, kicked, taken, drained ring.Ring
	if l, e := put.Put(w(4)); len(l) > 0 || e != api.OK {
		t.Errorf("Put: %v, %d", l, e)
	}
	holds(t, "Put", &put, alone(list(4)))
	if l, e := ready.Ready(w(0)); len(l) > 0 || e != api.OK {
		t.Errorf("Ready: %v, %d", l, e)
	}
	holds(t, "Ready", &ready, with(nil, 0))
	if l := kicked.Kick(); len(l) > 0 {
		t.Errorf("Kick: %v", l)
	}
	if _, _, e := taken.Take(); e != api.ErrEmpty {
		t.Errorf("Take: %d", e)
	}
	if l := drained.Drain(); len(l) > 0 {
		t.Errorf("Drain: %v", l)
	}
	if _, e := ring.Steal(&stolen, &thief); e != api.ErrEmpty {
		t.Errorf("Steal of a plain one: %d", e)
	}
	if x, e := ring.Steal(loaded(t, alone(list(1, 2, 3)), 0), &thief); x != w(1) || e != api.OK {
		t.Errorf("Steal to a plain one: %v, %d", x, e)
	}
	holds(t, "Steal to a plain one", &thief, alone(list(2)))
}
