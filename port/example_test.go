package port_test

import (
	"testing"

	"rota/api"
	"rota/port"
)

// TestExample1: a queued port of two.
func TestExample1(t *testing.T) {
	p := made(t, true, 2)
	puts(t, "first", p, 1, true)
	puts(t, "second", p, 2, true)
	puts(t, "full", p, 3, false)
	gets(t, "ahead of the delivery", p, 0, -1)
	p.Deliver()
	gets(t, "behind it", p, 1, 0)
	puts(t, "third", p, 4, true)
	puts(t, "fourth", p, 5, true)
	p.Deliver()
	stands(t, "behind the second delivery", p, queued(2, nil, ages(2, 1, 4, 0), 1))
	gets(t, "behind it", p, 2, 1)
	stands(t, "then", p, queued(2, nil, ages(4, 0), 1))
}

// TestExample2: a sampled port.
func TestExample2(t *testing.T) {
	p := made(t, false, 1)
	puts(t, "first", p, 1, true)
	puts(t, "second", p, 2, true)
	p.Deliver()
	gets(t, "behind the delivery", p, 2, 0)
	gets(t, "again", p, 2, 0)
	p.Deliver()
	gets(t, "behind the second delivery", p, 2, 1)
	stands(t, "then", p, sampled(nil, ages(2, 1)))
	if p, e := port.New(false, 2); p != nil || e != api.ErrArg {
		t.Errorf("New(false, 2): %v, %d", p, e)
	}
}
