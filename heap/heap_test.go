package heap_test

import (
	"math"
	"slices"
	"testing"

	"rota/api"
	"rota/heap"
)

// TestExample: the chapter's example.
func TestExample(t *testing.T) {
	h, l := pushed(t, 5, 3, 5)
	a, b, c := l[0], l[1], l[2]
	holds(t, "a, b, c", h, []entry{b, a, c})
	if when, number, value, e := h.Pop(); when != 3 || number != 1 || value != "b" || e != api.OK {
		t.Errorf("Pop: %d, %d, %q, %d", when, number, value, e)
	}
	drops(t, "a, c", h, a)
	holds(t, "c", h, []entry{c})
	refuses(t, "c", h, 0)
	if n := h.Push(1, "d"); n != 3 {
		t.Errorf("Push(1, d): %d, not 3", n)
	}
	holds(t, "d, c", h, []entry{{1, 3, "d"}, c})
}

// TestEmpty: C1, New, Top, Pop, Drop: there is nothing in a new heap, nor in one of which all was taken; what was asked of it does it no harm.
func TestEmpty(t *testing.T) {
	h := heap.New[string]()
	for range 2 {
		holds(t, "new", h, nil)
		pops(t, "new", h, nil)
		for _, n := range []int{0, 1, -1, math.MaxInt, math.MinInt} {
			refuses(t, "new", h, n)
		}
	}
	if n := h.Push(7, "a"); n != 0 {
		t.Errorf("the first Push: %d, not 0", n)
	}
	pops(t, "of one", h, []entry{{7, 0, "a"}})
	holds(t, "emptied by Pop", h, nil)
	if n := h.Push(7, "b"); n != 1 {
		t.Errorf("Push into a heap that was emptied: %d, not 1", n)
	}
	drops(t, "of one", h, entry{7, 1, "b"})
	holds(t, "emptied by Drop", h, nil)
	refuses(t, "emptied by Drop", h, 1)
	if n := h.Push(0, ""); n != 2 {
		t.Errorf("Push into a heap that was emptied again: %d, not 2", n)
	}
	pops(t, "of zeros", h, []entry{{0, 2, ""}})
}

// TestPushGivesNumbers: C1, Push: the next number each time, whatever was taken out ahead, be it the one of the greatest number.
func TestPushGivesNumbers(t *testing.T) {
	h := heap.New[string]()
	takeOut := []func(last int){
		func(int) {},
		func(int) { h.Pop() },
		func(last int) { h.Drop(last) },
		func(int) { h.Drop(-1) },
		func(int) {
			for h.Len() > 0 {
				h.Pop()
			}
		},
	}
	for want := range 100 {
		if n := h.Push(uint64(want*37%11), name(want)); n != want {
			t.Fatalf("Push: %d, not %d", n, want)
		}
		if !h.Has(want) || h.Has(want+1) {
			t.Fatalf("behind Push of %d: Has: %v, and of the next one: %v", want, h.Has(want), h.Has(want+1))
		}
		takeOut[want*7%len(takeOut)](want)
	}
}

// TestOrder: C1, Top, Pop, Numbers: by rising when, and of one when by rising number; whens have no sign.
func TestOrder(t *testing.T) {
	for _, c := range []struct {
		what  string
		whens []uint64
		order []int
	}{
		{"one", []uint64{9}, []int{0}},
		{"two that rise", []uint64{1, 2}, []int{0, 1}},
		{"two that fall", []uint64{2, 1}, []int{1, 0}},
		{"two of one when", []uint64{4, 4}, []int{0, 1}},
		{"all of one when", []uint64{4, 4, 4, 4, 4, 4, 4}, []int{0, 1, 2, 3, 4, 5, 6}},
		{"all of when 0", []uint64{0, 0, 0, 0, 0, 0}, []int{0, 1, 2, 3, 4, 5}},
		{"all of the greatest when", []uint64{top, top, top, top, top, top}, []int{0, 1, 2, 3, 4, 5}},
		{"the least and the greatest", []uint64{top, 0, top, 0}, []int{1, 3, 0, 2}},
		{"on both sides of 2^63", []uint64{1 << 63, 1<<63 - 1, 1<<63 + 1, 5}, []int{3, 1, 0, 2}},
		{"far apart", []uint64{1 << 32, 1, 1<<32 + 1, 0, 1<<33 + 1}, []int{3, 1, 0, 2, 4}},
		{"by turns", []uint64{3, 1, 3, 1, 3, 1, 2, 2}, []int{1, 3, 5, 6, 7, 0, 2, 4}},
	} {
		h, l := pushed(t, c.whens...)
		var want []entry
		for _, n := range c.order {
			want = append(want, l[n])
		}
		holds(t, c.what, h, want)
		pops(t, c.what, h, want)
		holds(t, c.what+", popped", h, nil)
	}
}

// TestAskingChangesNothing: C1: Top, Has, Len and Numbers take nothing away.
func TestAskingChangesNothing(t *testing.T) {
	h, l := pushed(t, 6, 2, 9, 2, 4, 1, 9, 3)
	l = sorted(l)
	for range 3 {
		holds(t, "asked again", h, l)
	}
	pops(t, "asked thrice", h, l)
}

// TestDrop: C1, Drop: any one goes, the first, the last, and each between, in each order of pushes; the others stay, in order.
func TestDrop(t *testing.T) {
	orders([]uint64{1, 2, 2, 4, 5, 6}, func(whens []uint64) {
		dropsEach(t, "of six", whens)
	})
}

// TestDropByPlace: C1, C2: of a heap of several rows, the first in order, the last, and each between, by rising and by falling whens and all of one.
func TestDropByPlace(t *testing.T) {
	const many = 90 // four rows of a heap of four children are 85
	for _, c := range []struct {
		what string
		when func(i int) uint64
	}{
		{"rising", func(i int) uint64 { return uint64(i) }},
		{"falling", func(i int) uint64 { return uint64(many - i) }},
		{"equal", func(int) uint64 { return 7 }},
		{"mixed", func(i int) uint64 { return uint64(i * 53 % 97) }},
		{"few whens", func(i int) uint64 { return uint64(i * 53 % 97 % 5) }},
	} {
		var whens []uint64
		for i := range many {
			whens = append(whens, c.when(i))
		}
		dropsEach(t, c.what, whens)
	}
}

// TestDropOfMovedBranch: C2: the one that fills a gap may belong above it: here the last one, 5, comes under 20 where 21 was.
func TestDropOfMovedBranch(t *testing.T) {
	h, l := pushed(t, 0, 20, 1, 2, 3, 21, 22, 23, 24, 5)
	drops(t, "below 20", h, l[5])
	rest := sorted(without(l, 5))
	holds(t, "below 20", h, rest)
	pops(t, "below 20", h, rest)
}

// branches gives whens to a heap of so many places, so that of two branches all of one come ahead of all of the other: of the one on the left, or of the one on the right. Pushed by places, each stays where it was put.
func branches(many int, left bool) []uint64 {
	whens := make([]uint64, many)
	var fill func(at int, from, span uint64)
	fill = func(at int, from, span uint64) {
		if at >= many {
			return
		}
		whens[at] = from
		for child := range 4 {
			part := child
			if !left {
				part = 3 - child
			}
			fill(4*at+1+child, from+1+uint64(part)*(span/4-1), span/4-1)
		}
	}
	fill(0, 0, 1<<20)
	return whens
}

// TestDropInUnevenHeaps: C2: what is far from its neighbours in order is not mistaken for one of the branch below it or above it.
func TestDropInUnevenHeaps(t *testing.T) {
	for _, many := range []int{40, 89, 90, 91} {
		for _, left := range []bool{true, false} {
			dropsEach(t, "uneven", branches(many, left))
		}
	}
}

// TestWrongNumbers: C1, Drop, Has: of a number that was never given, or is there no more, there is nothing, and nothing is changed.
func TestWrongNumbers(t *testing.T) {
	h, l := pushed(t, 8, 6, 7, 5, 3, 0, 9)
	first := l[5]
	if when, number, value, e := h.Pop(); (entry{when, number, value}) != first || e != api.OK {
		t.Fatalf("Pop: %d, %d, %q, %d", when, number, value, e)
	}
	drops(t, "of six", h, l[2])
	rest := sorted(without(without(l, 5), 2))
	for _, c := range []struct {
		what   string
		number int
	}{
		{"popped", 5},
		{"dropped", 2},
		{"the next one", 7},
		{"far beyond", 1 << 40},
		{"the greatest", math.MaxInt},
		{"the one below 0", -1},
		{"the least", math.MinInt},
		{"one that wraps at 32 bits to one that is there", 1<<32 + 1},
	} {
		if h.Has(c.number) {
			t.Errorf("%s: Has(%d): true", c.what, c.number)
		}
		refuses(t, c.what, h, c.number)
		holds(t, c.what, h, rest)
	}
	pops(t, "behind wrong numbers", h, rest)
}

// TestManyPushes: C1, C2: rising and falling order, and all of one when, with many.
func TestManyPushes(t *testing.T) {
	const many = 3000
	for _, c := range []struct {
		what string
		when func(i int) uint64
		at   func(i int) int // the number of the i-th in order
	}{
		{"rising", func(i int) uint64 { return uint64(i) * 3 }, func(i int) int { return i }},
		{"falling", func(i int) uint64 { return top - uint64(i)*3 }, func(i int) int { return many - 1 - i }},
		{"equal", func(int) uint64 { return 1 << 50 }, func(i int) int { return i }},
		{"falling by pairs", func(i int) uint64 { return uint64(many - i/2) }, func(i int) int { return many - 2 - i + i%2*2 }},
	} {
		var whens []uint64
		for i := range many {
			whens = append(whens, c.when(i))
		}
		h, l := pushed(t, whens...)
		var want []entry
		for i := range many {
			want = append(want, l[c.at(i)])
		}
		holds(t, c.what, h, want)
		pops(t, c.what, h, want)
	}
}

// TestNilHeap: a heap that is none answers as one in which there is nothing, and keeps nothing.
func TestNilHeap(t *testing.T) {
	var h *heap.Heap[string]
	for range 2 {
		holds(t, "nil", h, nil)
		pops(t, "nil", h, nil)
		refuses(t, "nil", h, 0)
		refuses(t, "nil", h, -1)
		if n := h.Push(4, "a"); n != 0 {
			t.Errorf("Push into a nil heap: %d", n)
		}
	}
}

// TestPlainHeap: a heap that no New made is an empty one.
func TestPlainHeap(t *testing.T) {
	var h heap.Heap[string]
	holds(t, "plain", &h, nil)
	pops(t, "plain", &h, nil)
	refuses(t, "plain", &h, 0)
	for i, when := range []uint64{5, 3, 5} {
		if n := h.Push(when, name(i)); n != i {
			t.Errorf("Push into a plain heap: %d, not %d", n, i)
		}
	}
	drops(t, "plain", &h, entry{5, 0, "a"})
	holds(t, "plain, pushed", &h, []entry{{3, 1, "b"}, {5, 2, "c"}})
	pops(t, "plain", &h, []entry{{3, 1, "b"}, {5, 2, "c"}})
}

// pair is a value of some size, with a list in it.
type pair struct {
	text string
	list []int
}

// TestAnyValue: a heap holds what it is made for: structs, pointers, functions, nothing at all.
func TestAnyValue(t *testing.T) {
	pairs := heap.New[pair]()
	pairs.Push(2, pair{"two", []int{2, 2}})
	pairs.Push(1, pair{"one", []int{1}})
	if _, _, v, e := pairs.Top(); v.text != "one" || !slices.Equal(v.list, []int{1}) || e != api.OK {
		t.Errorf("Top of pairs: %v, %d", v, e)
	}
	if _, v, e := pairs.Drop(0); v.text != "two" || !slices.Equal(v.list, []int{2, 2}) || e != api.OK {
		t.Errorf("Drop of pairs: %v, %d", v, e)
	}
	if _, v, e := pairs.Drop(0); v.text != "" || v.list != nil || e != api.ErrNone {
		t.Errorf("Drop of a pair that is not there: %v, %d", v, e)
	}
	n := new(int)
	pointers := heap.New[*int]()
	pointers.Push(1, nil)
	pointers.Push(0, n)
	if _, _, v, e := pointers.Pop(); v != n || e != api.OK {
		t.Errorf("Pop of pointers: %v, %d", v, e)
	}
	if _, number, v, e := pointers.Pop(); v != nil || number != 0 || e != api.OK {
		t.Errorf("Pop of a nil pointer: %v, %d, %d", v, number, e)
	}
	if _, _, v, e := pointers.Pop(); v != nil || e != api.ErrNone {
		t.Errorf("Pop of no pointer: %v, %d", v, e)
	}
	calls := heap.New[func() int]()
	calls.Push(3, func() int { return 33 })
	if _, _, v, e := calls.Top(); e != api.OK || v() != 33 {
		t.Errorf("Top of functions: %d", e)
	}
	nothings := heap.New[struct{}]()
	nothings.Push(3, struct{}{})
	nothings.Push(2, struct{}{})
	if !slices.Equal(nothings.Numbers(), []int{1, 0}) {
		t.Errorf("Numbers of nothings: %v", nothings.Numbers())
	}
}

// TestEqualValues: C1: values are told apart by their numbers alone.
func TestEqualValues(t *testing.T) {
	h := heap.New[string]()
	for range 5 {
		h.Push(6, "same")
	}
	drops(t, "of the same", h, entry{6, 3, "same"})
	rest := []entry{{6, 0, "same"}, {6, 1, "same"}, {6, 2, "same"}, {6, 4, "same"}}
	holds(t, "of the same", h, rest)
	pops(t, "of the same", h, rest)
}
