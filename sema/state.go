package sema

import (
	"slices"

	"rota/api"
)

// New has them all free, empty, at 0.
func New() *Sync { return &Sync{waiting: map[api.Gid]struct{}{}} }

// Load has them as a state tells.
func Load(s api.SyncState) (*Sync, api.Errno) {
	if !whole(s) {
		return nil, api.ErrArg
	}
	x := New()
	for n := range api.MaxSemas {
		x.locks[n] = mutexOf(s.Locks[n])
		x.groups[n] = groupOf(s.Groups[n])
		x.conds[n] = conditionOf(s.Conds[n])
		x.semas[n] = semaphoreOf(s.Semas[n])
		if !x.mayBe(n) || !x.enter(x.standing(n)) {
			return nil, api.ErrArg
		}
	}
	return x, api.OK
}

// State is all of them.
func (s *Sync) State() api.SyncState {
	if !s.given() {
		return api.SyncState{}
	}
	out := api.SyncState{
		Locks:  make([]api.LockState, api.MaxSemas),
		Groups: make([]api.GroupState, api.MaxSemas),
		Conds:  make([]api.CondState, api.MaxSemas),
		Semas:  make([]api.GroupState, api.MaxSemas),
	}
	for n := range api.MaxSemas {
		out.Locks[n] = s.locks[n].state()
		out.Groups[n] = s.groups[n].state()
		out.Conds[n] = s.conds[n].state()
		out.Semas[n] = s.semas[n].state()
	}
	return out
}

// whole tells whether a state has all of each.
func whole(s api.SyncState) bool {
	return len(s.Locks) == api.MaxSemas && len(s.Groups) == api.MaxSemas &&
		len(s.Conds) == api.MaxSemas && len(s.Semas) == api.MaxSemas
}

// mayBe tells whether those of a number can stand so, each by itself.
func (s *Sync) mayBe(n int) bool {
	return s.locks[n].mayBe() && s.groups[n].mayBe() && s.conds[n].mayBe() && s.semas[n].mayBe()
}

// standing is all that stand in the queues of a number.
func (s *Sync) standing(n int) []api.Gid {
	l := slices.Concat(s.groups[n].line, s.semas[n].line)
	for _, w := range s.locks[n].line {
		l = append(l, w.G)
	}
	for _, w := range s.conds[n].line {
		l = append(l, w.G)
	}
	return l
}

// enter remembers those that wait; false, if one of them waits already.
func (s *Sync) enter(l []api.Gid) bool {
	for _, g := range l {
		if s.Waits(g) {
			return false
		}
		s.waiting[g] = struct{}{}
	}
	return true
}
