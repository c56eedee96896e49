package heap_test

import (
	"math"
	"slices"
	"testing"

	"rota/api"
	"rota/heap"
)

const top = math.MaxUint64 // the greatest when

// entry is one that was pushed, as it must be told.
type entry struct {
	when   uint64
	number int
	value  string
}

// pushed is a heap of those whens, with the values a, b, c and so on, and the entries that it holds, by number.
func pushed(t *testing.T, whens ...uint64) (*heap.Heap[string], []entry) {
	t.Helper()
	h := heap.New[string]()
	var l []entry
	for i, when := range whens {
		x := entry{when, i, name(i)}
		if n := h.Push(when, x.value); n != i {
			t.Fatalf("Push(%d): %d, not %d", when, n, i)
		}
		l = append(l, x)
	}
	return h, l
}

// name is a value that differs from number to number.
func name(number int) string {
	s := string(rune('a' + number%26))
	for number >= 26 {
		number /= 26
		s = string(rune('a'+number%26)) + s
	}
	return s
}

// sorted is entries in order, by going over all of them again and again: no sort of the library, by which the heap itself tells its numbers.
func sorted(l []entry) []entry {
	rest, out := slices.Clone(l), []entry{}
	for len(rest) > 0 {
		first := 0
		for i, x := range rest {
			if x.when < rest[first].when || x.when == rest[first].when && x.number < rest[first].number {
				first = i
			}
		}
		out = append(out, rest[first])
		rest = slices.Delete(rest, first, first+1)
	}
	return out
}

// without is entries but the one of a number.
func without(l []entry, number int) []entry {
	return slices.DeleteFunc(slices.Clone(l), func(x entry) bool { return x.number == number })
}

// numbers is the numbers of entries.
func numbers(l []entry) []int {
	var out []int
	for _, x := range l {
		out = append(out, x.number)
	}
	return out
}

// holds asks a heap by all that change nothing: just those are there, which stand in order.
func holds(t *testing.T, what string, h *heap.Heap[string], l []entry) {
	t.Helper()
	if got := h.Numbers(); !slices.Equal(got, numbers(l)) {
		t.Errorf("%s: Numbers: %v, not %v", what, got, numbers(l))
	}
	if n := h.Len(); n != len(l) {
		t.Errorf("%s: Len: %d, not %d", what, n, len(l))
	}
	there := map[int]int{}
	for _, x := range l {
		there[x.number]++
	}
	for n := -3; n < len(l)+9; n++ {
		if got := h.Has(n); got != (there[n] > 0) {
			t.Errorf("%s: Has(%d): %v", what, n, got)
		}
	}
	when, number, value, e := h.Top()
	switch {
	case len(l) == 0:
		isNothing(t, what+": Top", when, number, value, e)
	case entry{when, number, value} != l[0] || e != api.OK:
		t.Errorf("%s: Top: %d, %d, %q, %d, not %v", what, when, number, value, e, l[0])
	}
}

// pops asks for all of a heap by Pop: just those, in that order, and then nothing.
func pops(t *testing.T, what string, h *heap.Heap[string], l []entry) {
	t.Helper()
	for i, want := range l {
		when, number, value, e := h.Pop()
		if (entry{when, number, value}) != want || e != api.OK {
			t.Fatalf("%s: Pop: %d, %d, %q, %d, not %v", what, when, number, value, e, want)
		}
		if h.Has(number) || h.Len() != len(l)-i-1 {
			t.Fatalf("%s: behind Pop of %d: Has: %v, Len: %d", what, number, h.Has(number), h.Len())
		}
	}
	when, number, value, e := h.Pop()
	isNothing(t, what+": Pop of nothing", when, number, value, e)
}

// drops takes one out by its number: just that one.
func drops(t *testing.T, what string, h *heap.Heap[string], want entry) {
	t.Helper()
	when, value, e := h.Drop(want.number)
	if when != want.when || value != want.value || e != api.OK {
		t.Fatalf("%s: Drop(%d): %d, %q, %d, not %v", what, want.number, when, value, e, want)
	}
}

// dropsEach takes out each of a heap of those whens, each time of a new one: it is there no more, and the others are told in order.
func dropsEach(t *testing.T, what string, whens []uint64) {
	t.Helper()
	for n := range whens {
		h, l := pushed(t, whens...)
		drops(t, what, h, l[n])
		rest := sorted(without(l, n))
		holds(t, what+", but one", h, rest)
		refuses(t, what+", but one", h, n)
		holds(t, what+", refused", h, rest)
		pops(t, what+", but one", h, rest)
	}
}

// refuses asks for a Drop of a number that is not there.
func refuses(t *testing.T, what string, h *heap.Heap[string], number int) {
	t.Helper()
	when, value, e := h.Drop(number)
	isNothing(t, what+": Drop of what is not there", when, 0, value, e)
}

// isNothing asks for ErrNone, and zero of all else.
func isNothing(t *testing.T, what string, when uint64, number int, value string, e api.Errno) {
	t.Helper()
	if when != 0 || number != 0 || value != "" || e != api.ErrNone {
		t.Errorf("%s: %d, %d, %q, %d, not zeros and ErrNone", what, when, number, value, e)
	}
}

// orders calls one with each order of a list.
func orders(l []uint64, each func([]uint64)) {
	if len(l) == 0 {
		each(nil)
		return
	}
	orders(l[1:], func(rest []uint64) {
		for i := range len(rest) + 1 {
			each(slices.Insert(slices.Clone(rest), i, l[0]))
		}
	})
}
