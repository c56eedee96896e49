package sema

import (
	"slices"

	"rota/api"
)

// condition is those that wait for it, each with the mutex that it will lock.
type condition struct{ queue[api.CondWaiter] }

// conditionOf is one of a state.
func conditionOf(s api.CondState) condition { return condition{queueOf(s.Queue)} }

// state is what is told of it.
func (c *condition) state() api.CondState { return api.CondState{Queue: c.all()} }

// mayBe tells whether it can stand so.
func (c *condition) mayBe() bool { return !slices.ContainsFunc(c.line, locksNothing) }

// locksNothing tells whether one has no mutex to lock.
func locksNothing(w api.CondWaiter) bool { return w.Mutex < 0 || w.Mutex >= api.MaxSemas }
