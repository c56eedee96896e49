package heap_test

import (
	"runtime"
	"slices"
	"testing"
	"weak"

	"rota/api"
	"rota/heap"
)

// TestNumbersIsNewMemory: R3: what is written into a list that Numbers answered, or behind its end, is seen by nobody.
func TestNumbersIsNewMemory(t *testing.T) {
	for _, many := range []int{0, 1, 3, 40} {
		var whens []uint64
		for i := range many {
			whens = append(whens, uint64(i*17%41))
		}
		h, l := pushed(t, whens...)
		l = sorted(l)
		one, another := h.Numbers(), h.Numbers()
		one = one[:cap(one)]
		for i := range one {
			one[i] = -77
		}
		if !slices.Equal(another, numbers(l)) {
			t.Errorf("of %d: a list is changed by what is written into another: %v", many, another)
		}
		holds(t, "written over", h, l)
		last := h.Numbers()
		h.Push(0, "more")
		h.Pop()
		if !slices.Equal(last, numbers(l)) {
			t.Errorf("of %d: a list is changed by calls behind it: %v", many, last)
		}
	}
}

// TestHeapsApart: R4: two heaps do not disturb one another, of one type of value or of two.
func TestHeapsApart(t *testing.T) {
	one, l := pushed(t, 5, 3, 5, 1)
	l = sorted(l)
	another := heap.New[string]()
	counts := heap.New[int]()
	for i := range 50 {
		if n := another.Push(uint64(50-i), "other"); n != i {
			t.Fatalf("Push into another heap: %d, not %d", n, i)
		}
		if n := counts.Push(uint64(i), i); n != i {
			t.Fatalf("Push into a heap of numbers: %d, not %d", n, i)
		}
		holds(t, "beside pushes", one, l)
	}
	for i := range 50 {
		if i%2 == 0 {
			another.Drop(i)
		} else {
			another.Pop()
		}
		counts.Drop(49 - i)
		holds(t, "beside pops and drops", one, l)
	}
	if n := one.Push(4, "e"); n != 4 {
		t.Errorf("Push behind another heap's: %d, not 4", n)
	}
	holds(t, "pushed", one, sorted(append(l, entry{4, 4, "e"})))
	holds(t, "another, new", heap.New[string](), nil)
}

// big is a value that lies in memory of its own.
type big struct {
	room [100]int
	self *big
}

// TestWhatIsTakenIsNotKept: no more is kept than the promises need: a value that was taken out, by Pop or by Drop, can be given back to memory while the heap lives.
func TestWhatIsTakenIsNotKept(t *testing.T) {
	const many = 20
	h := heap.New[*big]()
	var seen []weak.Pointer[big]
	for i := range many {
		v := &big{}
		seen = append(seen, weak.Make(v))
		h.Push(uint64(i*7%many), v)
	}
	gone := map[int]int{}
	for n := range many / 2 {
		if n%2 == 0 {
			_, number, _, _ := h.Pop()
			gone[number]++
			continue
		}
		number := h.Numbers()[n*3%h.Len()]
		h.Drop(number)
		gone[number]++
	}
	runtime.GC()
	for number, p := range seen {
		if kept := p.Value() != nil; kept != (gone[number] == 0) {
			t.Errorf("value %d: kept: %v, taken out: %v", number, kept, gone[number] > 0)
		}
	}
	if len(gone) != many/2 || h.Len() != many/2 {
		t.Errorf("%d were taken out, %d stay", len(gone), h.Len())
	}
	runtime.KeepAlive(h)
}

// TestValueIsHandedOn: what a value points to is neither copied nor changed.
func TestValueIsHandedOn(t *testing.T) {
	h := heap.New[[]int]()
	list := []int{1, 2, 3}
	h.Push(9, list)
	h.Push(4, nil)
	if _, v, e := h.Drop(0); &v[0] != &list[0] || len(v) != 3 || e != api.OK {
		t.Errorf("Drop: %v, %d", v, e)
	}
	if !slices.Equal(list, []int{1, 2, 3}) {
		t.Errorf("the list that was pushed: %v", list)
	}
}
