package heap_test

import (
	"slices"
	"testing"

	"rota/api"
	"rota/heap"
)

// model is a heap by the document's words: all that are there, by number, looked through each time.
type model struct {
	there []entry
	next  int
}

func (m *model) push(when uint64) entry {
	x := entry{when, m.next, name(m.next)}
	m.there = append(m.there, x)
	m.next++
	return x
}

// first is where the first in order stands; there is one. The one of the lesser number stands ahead, so that it wins among equals.
func (m *model) first() int {
	at := 0
	for i, x := range m.there {
		if x.when < m.there[at].when {
			at = i
		}
	}
	return at
}

func (m *model) take(at int) entry {
	x := m.there[at]
	m.there = slices.Delete(m.there, at, at+1)
	return x
}

// both is a heap and its model.
type both struct {
	t *testing.T
	h *heap.Heap[string]
	m model
}

func newBoth(t *testing.T) *both { return &both{t: t, h: heap.New[string]()} }

func (b *both) push(when uint64) {
	b.t.Helper()
	want := b.m.push(when)
	if n := b.h.Push(when, want.value); n != want.number {
		b.t.Fatalf("Push(%d): %d, not %d", when, n, want.number)
	}
}

func (b *both) pop() {
	b.t.Helper()
	when, number, value, e := b.h.Pop()
	if len(b.m.there) == 0 {
		isNothing(b.t, "Pop", when, number, value, e)
		return
	}
	if want := b.m.take(b.m.first()); (entry{when, number, value}) != want || e != api.OK {
		b.t.Fatalf("Pop: %d, %d, %q, %d, not %v", when, number, value, e, want)
	}
}

func (b *both) drop(number int) {
	b.t.Helper()
	at := slices.IndexFunc(b.m.there, func(x entry) bool { return x.number == number })
	if at < 0 {
		refuses(b.t, "walk", b.h, number)
		return
	}
	drops(b.t, "walk", b.h, b.m.take(at))
}

// same asks whether the two tell the same.
func (b *both) same() {
	b.t.Helper()
	holds(b.t, "walk", b.h, sorted(b.m.there))
	if b.t.Failed() {
		b.t.FailNow()
	}
}

// TestShortWalks: C1, C2: each row of calls of some length, with all that are told behind each call.
func TestShortWalks(t *testing.T) {
	calls := []func(*both){
		func(b *both) { b.push(1) },
		func(b *both) { b.push(2) },
		func(b *both) { b.push(0) },
		func(b *both) { b.pop() },
		func(b *both) { b.drop(0) },
		func(b *both) { b.drop(1) },
		func(b *both) { b.drop(b.m.next - 1) },
	}
	var walk func(made []int, more int)
	walk = func(made []int, more int) {
		if more == 0 {
			b := newBoth(t)
			for _, c := range made {
				calls[c](b)
			}
			b.same()
			return
		}
		for c := range calls {
			walk(append(made, c), more-1)
		}
	}
	for length := range 6 {
		walk(nil, length)
	}
}

// TestLongWalks: C1, C2: pushes, pops and drops by turns, of few whens and of many, in heaps that grow and fall.
func TestLongWalks(t *testing.T) {
	for _, whens := range []int{1, 3, 50, 99991} {
		b := newBoth(t)
		popped, dropped, refused, most := 0, 0, 0, 0
		for n := range 12000 {
			jump := n * 7919 % 10007
			grows := n/600%2 == 0
			switch kind := jump % 10; {
			case kind < 3 || grows && kind < 6:
				b.push(uint64(jump * 31 % whens))
			case kind < 8 && len(b.m.there) > 0:
				b.drop(b.m.there[jump*13%len(b.m.there)].number)
				dropped++
			case kind == 8:
				b.pop()
				popped++
			default:
				b.drop(jump*3%(b.m.next+2) - 1)
				refused++
			}
			most = max(most, len(b.m.there))
			if n%40 == 0 {
				b.same()
			}
		}
		for len(b.m.there) > 0 {
			b.pop()
		}
		b.same()
		if popped < 500 || dropped < 2000 || refused < 500 || most < 100 {
			t.Errorf("%d pops, %d drops, %d of any number, %d at most: too few to tell anything", popped, dropped, refused, most)
		}
	}
}

// TestPopsRise: C2: between pushes that are not below what was popped, pops tell (when, number) by rising order, whatever is dropped.
func TestPopsRise(t *testing.T) {
	h := heap.New[string]()
	last, seen := entry{number: -1}, 0
	for n := range 5000 {
		jump := n * 7919 % 10007
		h.Push(last.when+uint64(jump%9), name(n))
		if jump%3 == 0 {
			h.Drop(n - jump%20)
		}
		if jump%2 == 0 || h.Len() == 0 {
			continue
		}
		when, number, value, e := h.Pop()
		if e != api.OK || value != name(number) || when < last.when || when == last.when && number <= last.number {
			t.Fatalf("Pop: %d, %d, %q, %d behind %v", when, number, value, e, last)
		}
		last = entry{when, number, value}
		seen++
	}
	if seen < 1000 || last.when < 100 {
		t.Errorf("%d pops, up to %d: too few to tell anything", seen, last.when)
	}
}
