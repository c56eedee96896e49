package sema

import "slices"

// queue is those that wait for one thing, first come first.
type queue[T any] struct{ line []T }

// queueOf is one of a list, in memory of its own.
func queueOf[T any](l []T) queue[T] { return queue[T]{slices.Clone(l)} }

// all is all of them, in memory of its own.
func (q *queue[T]) all() []T { return slices.Clone(q.line) }

// empty tells whether nobody waits.
func (q *queue[T]) empty() bool { return len(q.line) == 0 }

// first is who waits longest; there is one.
func (q *queue[T]) first() T { return q.line[0] }

// join lets one wait behind the others.
func (q *queue[T]) join(w T) { q.line = append(q.line, w) }

// leave takes out who waits longest; there is one.
func (q *queue[T]) leave() T {
	w := q.first()
	// The others stay where they are, so that a queue of any length is emptied in one go over it.
	q.line = q.line[1:]
	return w
}

// leaveAll takes all of them out.
func (q *queue[T]) leaveAll() []T {
	l := q.all()
	q.line = nil
	return l
}
