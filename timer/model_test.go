package timer_test

import (
	"cmp"
	"fmt"
	"math/rand/v2"
	"slices"
	"testing"

	"rota/api"
	"rota/timer"
)

// kept is a timer of the model, and when it was armed.
type kept struct {
	x     api.Timer
	armed int
}

// model is all of it by the document's words: one list, put in order each time that it is looked at, and no heap and no map.
type model struct {
	last   int64
	arming int
	all    []kept
}

// modelOf is one of a state.
func modelOf(last int64, l []api.Timer) *model {
	m := &model{last: last}
	for _, x := range l {
		m.arm(x)
	}
	return m
}

func (m *model) arm(x api.Timer) {
	m.arming++
	m.all = append(m.all, kept{x, m.arming})
}

// order is the document's: by rising When, those that are never due behind all others, then as they were armed.
func (m *model) order() []api.Timer {
	slices.SortFunc(m.all, func(x, y kept) int {
		if x.x.Never != y.x.Never {
			if y.x.Never {
				return -1
			}
			return 1
		}
		return cmp.Or(cmp.Compare(x.x.When, y.x.When), cmp.Compare(x.armed, y.armed))
	})
	var l []api.Timer
	for _, k := range m.all {
		l = append(l, k.x)
	}
	return l
}

func (m *model) sleeps(g api.Gid) bool {
	return slices.ContainsFunc(m.all, func(k kept) bool { return k.x.Kind == api.TimSleep && k.x.G == g })
}

// start is the common part of Sleep, After and Every.
func (m *model) start(x api.Timer, now, ticks uint64) named {
	if len(m.all) >= 1024 || m.last == lastName {
		return named{0, api.ErrFull}
	}
	m.last++
	x.Id = m.last
	m.arm(dueAt(x, now, ticks))
	return named{x.Id, api.OK}
}

func (m *model) stop(id int64) bool {
	was := len(m.all)
	m.all = slices.DeleteFunc(m.all, func(k kept) bool { return k.x.Id == id && k.x.Kind != api.TimSleep })
	return len(m.all) < was
}

func (m *model) due(now uint64) (told []api.Timer) {
	for _, x := range m.order() {
		if !x.Never && x.When <= now {
			told = append(told, x)
		}
	}
	m.all = slices.DeleteFunc(m.all, func(k kept) bool { return !k.x.Never && k.x.When <= now })
	for _, x := range told {
		if x.Kind == api.TimEvery {
			m.arm(nextTime(x, now))
		}
	}
	return told
}

// The kinds of calls.
const (
	doSleep = iota
	doAfter
	doEvery
	doStop
	doDue
	kinds
)

// call is one of them.
type call struct {
	kind  int
	g     api.Gid
	n     int64 // a channel, or a name
	now   uint64
	ticks uint64
}

// pair is a Timers and the model, to which the same is done.
type pair struct {
	t *testing.T
	x *timer.Timers
	m *model
	l []call // what was done since it was made or loaded
}

func newPair(t *testing.T) *pair { return &pair{t, timer.New(), modelOf(0, nil), nil} }

// loaded is another one of the same state.
func (p *pair) loaded() *pair {
	p.t.Helper()
	last, l := p.x.State()
	return &pair{p.t, load(p.t, last, l...), modelOf(last, l), nil}
}

// do carries a call out on both, and holds the answers against each other; what it told, or an error.
func (p *pair) do(c call) (int, api.Errno) {
	p.t.Helper()
	p.l = append(p.l, c)
	var got, want string
	told, e := 0, api.OK
	switch c.kind {
	case doSleep:
		e = p.x.Sleep(c.g, c.now, c.ticks)
		w := api.ErrSleeps
		if !p.m.sleeps(c.g) {
			w = p.m.start(api.Timer{Kind: api.TimSleep, G: c.g}, c.now, c.ticks).e
		}
		got, want = fmt.Sprint(e), fmt.Sprint(w)
	case doAfter:
		x := of(p.x.After(c.n, c.now, c.ticks))
		e = x.e
		got, want = fmt.Sprint(x), fmt.Sprint(p.m.start(api.Timer{Kind: api.TimAfter, Chan: c.n}, c.now, c.ticks))
	case doEvery:
		x := of(p.x.Every(c.n, c.now, c.ticks))
		e = x.e
		w := named{0, api.ErrArg}
		if c.ticks > 0 {
			w = p.m.start(api.Timer{Kind: api.TimEvery, Chan: c.n, Period: c.ticks}, c.now, c.ticks)
		}
		got, want = fmt.Sprint(x), fmt.Sprint(w)
	case doStop:
		yes := p.x.Stop(c.n)
		if yes {
			told = 1
		}
		got, want = fmt.Sprint(yes), fmt.Sprint(p.m.stop(c.n))
	case doDue:
		l := p.x.Due(c.now)
		told = len(l)
		got, want = fmt.Sprintf("%+v", l), fmt.Sprintf("%+v", p.m.due(c.now))
	}
	if got != want {
		p.t.Fatalf("behind %+v: %s, not %s", p.l, got, want)
	}
	return told, e
}

// told holds all that is told against each other.
func (p *pair) told() {
	p.t.Helper()
	stands(p.t, "behind calls", p.x, p.m.last, p.m.order()...)
}

// TestAllShortWalks: T1 to T4: all walks of some calls of a few steps.
func TestAllShortWalks(t *testing.T) {
	calls := []call{
		{kind: doSleep, g: a, now: 1, ticks: 1},
		{kind: doSleep, g: b, now: end, ticks: 1},
		{kind: doAfter, n: 7, now: 0, ticks: 2},
		{kind: doEvery, n: 8, now: 1, ticks: 1},
		{kind: doEvery, n: 9, now: 0, ticks: end - 1},
		{kind: doStop, n: 1},
		{kind: doStop, n: 2},
		{kind: doDue, now: 1},
		{kind: doDue, now: 2},
		{kind: doDue, now: end - 1},
	}
	for n := range 100000 {
		p := newPair(t)
		for range 5 {
			p.do(calls[n%10])
			n /= 10
		}
		p.told()
	}
}

// someTicks is a number of ticks by chance: few, or about the last tick.
func someTicks(r *rand.Rand, few int) uint64 {
	if r.IntN(12) == 0 {
		return edges()[r.IntN(len(edges()))]
	}
	return uint64(r.IntN(few))
}

// drawn is a call that is drawn by chance, always the same for the same source and what is there.
func drawn(r *rand.Rand, m *model, clock uint64, few int) call {
	c := call{kind: r.IntN(kinds), g: api.Gid{Slot: r.IntN(few), Gen: r.IntN(2)}, n: int64(r.IntN(4)), now: clock, ticks: someTicks(r, few)}
	if r.IntN(30) == 0 {
		c.now = edges()[r.IntN(len(edges()))]
	}
	if c.kind == doStop {
		c.n = m.last - int64(r.IntN(2*few))
		if len(m.all) > 0 && r.IntN(2) == 0 {
			c.n = m.all[r.IntN(len(m.all))].x.Id
		}
	}
	return c
}

// TestLongWalks: calls by chance, of few and of many goroutines, far from the last tick and near to it; all is loaded anew now and then.
func TestLongWalks(t *testing.T) {
	for seed, at := range []struct {
		few  int
		from uint64
	}{{2, 0}, {4, 0}, {10, 5}, {40, 1 << 32}, {200, 1 << 63}, {3, end - 2000}, {10, end - 1500}, {40, end - 5000}, {5, end - 100}} {
		r := rand.New(rand.NewPCG(uint64(seed), 41))
		p, done, clock := newPair(t), map[int]int{}, at.from
		for n := range 6000 {
			if n%1500 == 0 {
				p, clock = newPair(t), at.from
			}
			if r.IntN(2) == 0 && clock < end-4 {
				clock += uint64(r.IntN(4))
			}
			c := drawn(r, p.m, clock, at.few)
			if told, e := p.do(c); e == api.OK && (told > 0 || c.kind < doStop) {
				done[c.kind]++
			}
			if n%10 == 9 {
				p.told()
			}
			if n%150 == 149 {
				p = p.loaded()
			}
		}
		for kind := range kinds {
			if done[kind] < 20 {
				t.Errorf("%v: %d calls of the kind %d: too few to tell anything", at, done[kind], kind)
			}
		}
	}
}

// TestWalksAtTheLimit: likewise with so many that some are refused, and with names that come to their end.
func TestWalksAtTheLimit(t *testing.T) {
	for seed := range uint64(4) {
		r := rand.New(rand.NewPCG(seed, 42))
		l := many(most - 20)
		p := &pair{t, load(t, lastName-150, l...), modelOf(lastName-150, l), nil}
		full := 0
		for n := range 1500 {
			c := drawn(r, p.m, 0, 60)
			c.ticks += 2000
			if c.kind == doDue {
				c.now = uint64(r.IntN(5)) // few are told, so that it stays nearly full
			}
			if _, e := p.do(c); e == api.ErrFull {
				full++
			}
			if n%100 == 99 {
				p.told()
				p.l = nil
			}
		}
		if p.m.last != lastName || full < 100 {
			t.Errorf("the last name is %d, %d calls were ErrFull: too few to tell anything", p.m.last, full)
		}
	}
}
