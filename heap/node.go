package heap

import (
	"cmp"
	"slices"
)

// children is how many a node has at most: more than two make the heap flatter, so that what rises to its place passes fewer.
const children = 4

// due is what the order of a heap is told by.
type due struct {
	when   uint64
	number int
}

// node is a value with its place in the order.
type node[T any] struct {
	due
	value T
}

// compare is below 0 if d comes ahead of other in order; it is never 0 of two numbers.
func (d due) compare(other due) int {
	return cmp.Or(cmp.Compare(d.when, other.when), cmp.Compare(d.number, other.number))
}

// ahead tells whether the node at one place comes ahead of that at another.
func (h *Heap[T]) ahead(one, another int) bool {
	return h.nodes[one].compare(h.nodes[another].due) < 0
}

// swap lets two nodes change their places.
func (h *Heap[T]) swap(one, another int) {
	a, b := h.nodes[one], h.nodes[another]
	h.nodes[one], h.nodes[another] = b, a
	h.places[b.number], h.places[a.number] = one, another
}

// takeAt takes out the node at a place; there is one.
func (h *Heap[T]) takeAt(at int) node[T] {
	last := len(h.nodes) - 1
	h.swap(at, last)
	out := h.nodes[last]
	h.nodes = slices.Delete(h.nodes, last, last+1) // which clears the place, so that the value is not kept
	delete(h.places, out.number)
	if at < last { // the one that came there is of another branch, so it may belong above as well as below
		h.rise(at)
		h.sink(at)
	}
	return out
}

// rise brings a node up to its place, as long as it comes ahead of its parent.
func (h *Heap[T]) rise(at int) {
	for at > 0 {
		parent := (at - 1) / children
		if !h.ahead(at, parent) {
			return
		}
		h.swap(at, parent)
		at = parent
	}
}

// sink brings a node down to its place, as long as a child comes ahead of it.
func (h *Heap[T]) sink(at int) {
	for {
		first := h.firstOf(at)
		if first == at {
			return
		}
		h.swap(at, first)
		at = first
	}
}

// firstOf is where the first in order stands of a node and its children.
func (h *Heap[T]) firstOf(at int) int {
	first := at
	for child := children*at + 1; child <= children*at+children && child < len(h.nodes); child++ {
		if h.ahead(child, first) {
			first = child
		}
	}
	return first
}
