package timer

import (
	"cmp"
	"slices"

	"rota/api"
	"rota/heap"
)

// New has none.
func New() *Timers {
	return &Timers{
		due:      heap.New[int64](),
		never:    heap.New[int64](),
		running:  map[int64]armed{},
		sleepers: map[api.Gid]struct{}{},
	}
}

// Load has these.
func Load(last int64, l []api.Timer) (*Timers, api.Errno) {
	if last < 0 || len(l) > api.MaxTimers || !slices.IsSortedFunc(l, compare) {
		return nil, api.ErrTimers
	}
	t := New()
	t.last = last
	for _, x := range l {
		if !mayBe(x) || !t.takes(x) {
			return nil, api.ErrTimers
		}
		t.arm(x)
	}
	return t, api.OK
}

// State is the last name that was given, and all that run, by when they are due.
func (t *Timers) State() (int64, []api.Timer) {
	if !t.given() {
		return 0, nil
	}
	return t.last, slices.Concat(t.listed(false), t.listed(true))
}

// listed is those that are never due, or the others, in their order.
func (t *Timers) listed(never bool) []api.Timer {
	byNumber := map[int]api.Timer{}
	for _, x := range t.running {
		if x.Never == never {
			byNumber[x.number] = x.Timer
		}
	}
	var l []api.Timer
	for _, n := range t.line(api.Timer{Never: never}).Numbers() {
		l = append(l, byNumber[n])
	}
	return l
}

// compare is below 0 if x must come ahead of y, and 0 if they stand as they were armed.
func compare(x, y api.Timer) int {
	if x.Never != y.Never {
		if x.Never {
			return 1
		}
		return -1
	}
	return cmp.Compare(x.When, y.When)
}

// mayBe tells whether a timer's fields fit its kind.
func mayBe(x api.Timer) bool {
	if x.Never && x.When != 0 {
		return false
	}
	switch x.Kind {
	case api.TimSleep:
		return x.Chan == 0 && x.Period == 0
	case api.TimAfter:
		return x.G == api.Gid{} && x.Period == 0
	case api.TimEvery:
		return x.G == api.Gid{} && x.Period > 0
	}
	return false
}

// takes tells whether a timer can run beside those that do: its name was given and is nobody else's, and if it is a sleeper its goroutine does not sleep.
func (t *Timers) takes(x api.Timer) bool {
	if _, there := t.running[x.Id]; there || x.Id < 1 || x.Id > t.last {
		return false
	}
	return x.Kind != api.TimSleep || !t.Sleeps(x.G)
}
