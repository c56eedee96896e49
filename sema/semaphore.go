package sema

import (
	"math"

	"rota/api"
)

// semaphore is how many can be taken from it, and those that wait for one.
type semaphore struct {
	queue[api.Gid]
	count int64
}

// semaphoreOf is one of a state.
func semaphoreOf(s api.GroupState) semaphore {
	return semaphore{queue: queueOf(s.Queue), count: s.Count}
}

// state is what is told of it.
func (s *semaphore) state() api.GroupState { return api.GroupState{Count: s.count, Queue: s.all()} }

// mayBe tells whether it can stand so.
func (s *semaphore) mayBe() bool { return s.count == 0 || s.count > 0 && s.empty() }

// acquire takes one for a goroutine, or lets that wait.
func (s *semaphore) acquire(g api.Gid) api.Held {
	if s.count > 0 {
		s.count--
		return api.Held{}
	}
	s.join(g)
	return api.Held{Waits: true}
}

// release gives one to the first that waits, or back.
func (s *semaphore) release() api.Held {
	switch {
	case !s.empty():
		return api.Held{Woken: []api.Gid{s.leave()}}
	case s.count == math.MaxInt64:
		return api.Held{Trap: api.TrapNegative}
	}
	s.count++
	return api.Held{}
}
