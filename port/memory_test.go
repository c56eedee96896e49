package port_test

import (
	"math"
	"slices"
	"sync"
	"testing"

	"rota/api"
	"rota/port"
)

// mark is what lists are written over with.
const mark = -777

// over writes over a list, and over the room behind its end.
func over[T any](l []T, with T) {
	l = l[:cap(l)]
	for i := range l {
		l[i] = with
	}
}

// spoil writes over all of a state.
func spoil(s api.PortState) {
	over(s.Out, mark)
	over(s.In, api.Aged{Value: mark, Age: mark})
}

// roomy is a state whose lists have room behind their ends, written over; all of that is told too.
func roomy(s api.PortState) (in, whole api.PortState) {
	whole = s
	whole.Out = append(slices.Clone(s.Out), mark, mark, mark)
	whole.In = append(slices.Clone(s.In), api.Aged{Value: mark}, api.Aged{Value: mark}, api.Aged{Value: mark})
	in = s
	in.Out, in.In = whole.Out[:len(s.Out)], whole.In[:len(s.In)]
	return in, whole
}

// busy carries out calls that move all that a port keeps.
func busy(p *port.Port) {
	for n := range int64(8) {
		p.Put(100 + n)
		p.Put(200 + n)
		p.Get()
		p.Deliver()
		p.Put(300 + n)
		p.Get()
	}
	p.Deliver()
	p.Put(400)
}

// TestStateHandedInIsNotKept: R3: nor is it changed, nor what lies behind its lists' ends.
func TestStateHandedInIsNotKept(t *testing.T) {
	for _, s := range states() {
		in, whole := roomy(s)
		was := copyOf(whole)
		p := load(t, in)
		stands(t, "Load", p, s)
		busy(p)
		if !same(whole, was) {
			t.Errorf("what was handed in has changed: %+v, not %+v", whole, was)
		}
		want := p.State()
		spoil(in)
		stands(t, "Load, then written over", p, want)

		in, _ = roomy(s)
		p = load(t, in)
		spoil(in)
		stands(t, "Load, then written over at once", p, s)
		for _, x := range s.In {
			gets(t, "Load, then written over at once", p, x.Value, x.Age)
			if !s.Queue {
				break
			}
		}
	}
}

// TestStateRefusedIsNotChanged: R3: likewise of states that may not be.
func TestStateRefusedIsNotChanged(t *testing.T) {
	for _, s := range states() {
		s.Lost = -1
		in, whole := roomy(s)
		was := copyOf(whole)
		wrong(t, "refused", in)
		if !same(whole, was) {
			t.Errorf("what was refused has changed: %+v, not %+v", whole, was)
		}
	}
}

// TestStateToldIsNotKept: R3: a state that is written over changes neither the port nor another state, and a port that goes on changes no state.
func TestStateToldIsNotKept(t *testing.T) {
	for _, s := range states() {
		p := load(t, s)
		for range 3 {
			want := copyOf(p.State())
			first, second, third := p.State(), p.State(), p.State()
			spoil(first)
			if !same(second, want) {
				t.Errorf("two states share memory: %+v, not %+v", second, want)
			}
			stands(t, "a state, written over", p, want)
			p.Put(5)
			p.Deliver()
			p.Put(6)
			p.Get()
			p.Put(7)
			if !same(second, want) {
				t.Errorf("a state has changed with the port: %+v, not %+v", second, want)
			}
			now := copyOf(p.State())
			spoil(third)
			stands(t, "an earlier state, written over", p, now)
			busy(p)
		}
	}
}

// TestLoadOfWhatWasTold: R3: a port that was loaded of another one's state shares nothing with it.
func TestLoadOfWhatWasTold(t *testing.T) {
	for _, s := range states() {
		p := load(t, s)
		told := p.State()
		x, y := load(t, told), load(t, told)
		busy(p)
		stands(t, "another one", x, s)
		busy(x)
		stands(t, "a third one", y, s)
		if !same(told, s) {
			t.Errorf("the state has changed: %+v, not %+v", told, s)
		}
	}
}

// TestTwoByThemselves: R4: what is done to one port is not seen in another one.
func TestTwoByThemselves(t *testing.T) {
	for _, s := range states() {
		x, y, z, u := load(t, s), load(t, s), made(t, true, 3), made(t, false, 1)
		busy(x)
		stands(t, "another one of that state", y, s)
		stands(t, "a queued one", z, queued(3, nil, nil, 0))
		stands(t, "a sampled one", u, sampled(nil, nil))
		want := x.State()
		busy(y)
		busy(z)
		busy(u)
		stands(t, "the first one", x, want)
		stands(t, "the second one, by the same calls", y, want)
	}
	x, y := made(t, true, 2), made(t, true, 2)
	puts(t, "one", x, 1, true)
	puts(t, "one", x, 2, true)
	puts(t, "the other", y, 3, true)
	x.Deliver()
	gets(t, "the other", y, 0, -1)
	y.Deliver()
	y.Deliver()
	gets(t, "one", x, 1, 0)
	gets(t, "the other", y, 3, 1)
	stands(t, "one", x, queued(2, nil, ages(2, 0), 0))
	stands(t, "the other", y, queued(2, nil, nil, 0))
}

// TestAskingChangesNothing: M1, M2, M3: State, a Put that is refused, a Get of nothing and one of a sampled port, however often.
func TestAskingChangesNothing(t *testing.T) {
	for _, s := range states() {
		p := load(t, s)
		for range 4 {
			if s.Queue && len(s.Out) == s.Cap {
				puts(t, "asked again", p, math.MaxInt64, false)
			}
			if !s.Queue || len(s.In) == 0 {
				p.Get()
			}
			stands(t, "asked again", p, s)
		}
	}
}

// TestOneAnswer: R4: the same calls have the same answers, asked by several goroutines at once, each with its own port.
func TestOneAnswer(t *testing.T) {
	for _, s := range states() {
		p := load(t, s)
		busy(p)
		want := p.State()
		var waits sync.WaitGroup
		for range 8 {
			waits.Go(func() {
				for range 10 {
					x, e := port.Load(s)
					if e != api.OK {
						t.Errorf("Load: %d", e)
						return
					}
					stands(t, "one of several", x, s)
					busy(x)
					stands(t, "one of several, behind calls", x, want)
				}
			})
		}
		waits.Wait()
	}
}
