package listing_test

import (
	"slices"
	"testing"

	"rota/api"
	"rota/listing"
)

// rich is a text with all kinds of lines.
func rich() string {
	return text("table t default", "send r1 r2", "recv r3 r4 r5", "table u", "recv r1 r1 r1", "func f", "x:", "zero r1 x", "select r2 u", "call g", "exit", "func g", "jump y", "y:", "ret")
}

// spoil writes over all of a program, and over the room behind its lists' ends.
func spoil(p api.Program) {
	words := p.Code[:cap(p.Code)]
	for at := range words {
		words[at] = 0xFFFFFFFF
	}
	funcs := p.Funcs[:cap(p.Funcs)]
	for n := range funcs {
		funcs[n] = api.Func{Begin: -7, End: -7}
	}
	for n := range p.Tables {
		cases := p.Tables[n].Cases[:cap(p.Tables[n].Cases)]
		for at := range cases {
			cases[at] = api.Case{Chan: -7, Val: -7, Ok: -7}
		}
	}
	tables := p.Tables[:cap(p.Tables)]
	for n := range tables {
		tables[n] = api.CaseTable{}
	}
}

// TestAnswersShareNothing: R3, R4: a program that was told is new memory, each of its lists by itself, and the next one is as if there were none.
func TestAnswersShareNothing(t *testing.T) {
	first, _, _ := listing.Parse(rich())
	second, _, _ := listing.Parse(rich())
	if !same(first, second) {
		t.Fatalf("%+v, then %+v", first, second)
	}
	spoil(first)
	third, _, _ := listing.Parse(rich())
	if !same(second, third) {
		t.Errorf("%+v, then %+v", second, third)
	}
	cases := third.Tables[1].Cases[0]
	room := third.Tables[0].Cases[:cap(third.Tables[0].Cases)]
	for at := range room {
		room[at] = api.Case{Chan: -7}
	}
	if third.Tables[1].Cases[0] != cases {
		t.Error("two tables share their cases")
	}
}

// TestArgumentsAreLeft: R3: a program that is handed in is not changed, nor the room behind its lists' ends.
func TestArgumentsAreLeft(t *testing.T) {
	p, _, _ := listing.Parse(rich())
	words := append(slices.Clone(p.Code), 0, 1, 2)
	funcs := append(slices.Clone(p.Funcs), api.Func{Begin: 8, End: 9})
	cases := append(slices.Clone(p.Tables[0].Cases), api.Case{Chan: 99})
	tables := []api.CaseTable{{Cases: cases[:2], Default: true}, p.Tables[1], {Default: true}}
	q := api.Program{Code: words[:len(p.Code)], Funcs: funcs[:len(p.Funcs)], Tables: tables[:2]}
	s, e := listing.Print(q)
	back, f, _ := listing.Parse(s)
	if e != api.OK || f != api.OK || !same(back, p) {
		t.Fatalf("%s, %d, %d", brief(s), e, f)
	}
	for at := range q.Code {
		if _, e := listing.Line(q, at); e != api.OK {
			t.Errorf("Line at %d: %d", at, e)
		}
	}
	if !same(q, p) || !slices.Equal(words, append(slices.Clone(p.Code), 0, 1, 2)) || funcs[len(p.Funcs)] != (api.Func{Begin: 8, End: 9}) || cases[2] != (api.Case{Chan: 99}) || !tables[2].Default {
		t.Errorf("changed: %+v", q)
	}
}
