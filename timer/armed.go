package timer

import (
	"rota/api"
	"rota/heap"
	"rota/tick"
)

// armed is a timer that runs, and its number in the heap where its name stands.
type armed struct {
	api.Timer
	number int
}

// dueIn is a timer that is due some ticks from a tick on; never, if that is beyond the last tick.
func dueIn(x api.Timer, from, ticks uint64) api.Timer {
	when, e := tick.Add(from, ticks)
	x.When, x.Never = when, e != api.OK
	return x
}

// again is a ticker that was due at now or before, as it runs on: its next time above now. However many of its times have passed, this takes one step.
func again(x api.Timer, now uint64) api.Timer {
	missed := (now - x.When) % x.Period
	return dueIn(x, now-missed, x.Period)
}

// line is the heap in which a timer stands.
func (t *Timers) line(x api.Timer) *heap.Heap[int64] {
	if x.Never {
		return t.never
	}
	return t.due
}

// arm lets a timer run, behind all of its When.
func (t *Timers) arm(x api.Timer) {
	t.running[x.Id] = armed{x, t.line(x).Push(x.When, x.Id)}
	if x.Kind == api.TimSleep {
		t.sleepers[x.G] = struct{}{}
	}
}

// disarm lets a timer run no more, wherever it stands; it runs.
func (t *Timers) disarm(x armed) {
	t.line(x.Timer).Drop(x.number)
	t.forget(x.Timer)
}

// takeFirst lets the one that is due first run no more; there is one.
func (t *Timers) takeFirst() api.Timer {
	_, _, id, _ := t.due.Pop()
	x := t.running[id].Timer
	t.forget(x)
	return x
}

// forget takes a timer that stands in no heap any more out of the maps.
func (t *Timers) forget(x api.Timer) {
	delete(t.running, x.Id)
	if x.Kind == api.TimSleep {
		delete(t.sleepers, x.G)
	}
}
