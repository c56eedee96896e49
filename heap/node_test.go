package heap

import "testing"

// sound asks whether a heap stands as the chapter has it: each node has four children, none of which comes ahead of it, and the map holds the places of those that are there, and of nobody else.
func sound(t *testing.T, h *Heap[int]) {
	t.Helper()
	if len(h.places) != len(h.nodes) {
		t.Fatalf("%d places of %d nodes", len(h.places), len(h.nodes))
	}
	for i, n := range h.nodes {
		if at, there := h.places[n.number]; !there || at != i {
			t.Fatalf("number %d stands at %d, its place is %d, %v", n.number, i, at, there)
		}
		if n.value != n.number*2 {
			t.Fatalf("number %d has the value %d", n.number, n.value)
		}
		for child := 4*i + 1; child <= 4*i+4 && child < len(h.nodes); child++ {
			if c := h.nodes[child]; c.when < n.when || c.when == n.when && c.number < n.number {
				t.Fatalf("at %d stands %v, below it at %d %v", i, n.due, child, c.due)
			}
		}
	}
	for _, n := range h.nodes[len(h.nodes):cap(h.nodes)] {
		if n != (node[int]{}) {
			t.Fatalf("behind the end %v is kept", n)
		}
	}
}

// TestFourChildren: the heap stands, whatever is called.
func TestFourChildren(t *testing.T) {
	h := New[int]()
	most := 0
	for n := range 6000 {
		jump := n * 7919 % 10007
		switch grows := n/500%2 == 0; {
		case jump%3 == 0 || grows && jump%3 == 1:
			h.Push(uint64(jump*31%101), h.next*2)
		case jump%4 == 0:
			h.Pop()
		case h.Len() > 0:
			h.Drop(h.nodes[jump*13%h.Len()].number)
		}
		sound(t, h)
		most = max(most, h.Len())
	}
	if most < 90 {
		t.Errorf("%d at most: too few for five rows", most)
	}
}
