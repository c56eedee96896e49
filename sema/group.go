package sema

import "rota/api"

// group is a wait group: how much is not done yet, and those that wait till that is 0.
type group struct {
	queue[api.Gid]
	count int64
}

// groupOf is one of a state.
func groupOf(s api.GroupState) group { return group{queue: queueOf(s.Queue), count: s.Count} }

// state is what is told of it.
func (w *group) state() api.GroupState { return api.GroupState{Count: w.count, Queue: w.all()} }

// mayBe tells whether it can stand so.
func (w *group) mayBe() bool { return w.count > 0 || w.count == 0 && w.empty() }

// add adds to it; all that wait go on, if it is 0 then.
func (w *group) add(d int64) api.Held {
	// The count is not below 0: so a sum that is too great wraps to one that is, and none that is below 0 wraps to one that is not.
	sum := w.count + d
	if sum < 0 {
		return api.Held{Trap: api.TrapNegative}
	}
	w.count = sum
	if sum > 0 {
		return api.Held{}
	}
	return api.Held{Woken: w.leaveAll()}
}

// wait lets a goroutine wait, unless it is 0.
func (w *group) wait(g api.Gid) api.Held {
	if w.count == 0 {
		return api.Held{}
	}
	w.join(g)
	return api.Held{Waits: true}
}
