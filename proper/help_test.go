package proper_test

import (
	"math"
	"slices"
	"strings"
	"testing"

	"rota/api"
	"rota/listing"
	"rota/proper"
	"rota/word"
)

// noOp and noField are words that Decode refuses.
const (
	noOp    uint32 = 0
	noField uint32 = 0x05120013
)

// program is the one of a text of those lines, whether or not it may be.
func program(t *testing.T, lines ...string) api.Program {
	t.Helper()
	p, e, n := listing.Parse(strings.Join(lines, "\n"))
	if e != api.OK {
		t.Fatalf("Parse(%q): %d, %d", lines, e, n)
	}
	return p
}

// words is those of instructions' lines.
func words(t *testing.T, lines ...string) []uint32 {
	t.Helper()
	return program(t, append([]string{"func f"}, lines...)...).Code
}

// one is a program of one function of those instructions' lines.
func one(t *testing.T, lines ...string) api.Program {
	t.Helper()
	return program(t, append([]string{"func f"}, lines...)...)
}

// fine asks for a program to be let be.
func fine(t *testing.T, p api.Program) {
	t.Helper()
	if at, e := proper.Check(p); at != 0 || e != api.OK {
		t.Errorf("Check(%s): %d, %d, not OK", brief(p), at, e)
	}
}

// wrong asks for what is refused of a program; all other calls tell it too, with zeros beside it, of each word and function and of such as are none.
func wrong(t *testing.T, p api.Program, place int, want api.Errno) {
	t.Helper()
	if at, e := proper.Check(p); at != place || e != want {
		t.Errorf("Check(%s): %d, %d, not %d, %d", brief(p), at, e, place, want)
	}
	for _, n := range []int{0, 1, len(p.Funcs) - 1, len(p.Funcs), len(p.Code) - 1, len(p.Code), -1, math.MaxInt, math.MinInt} {
		untold(t, p, n, n, want)
	}
}

// untold asks for a refusal of all that is told of a word, and of a function, with zeros beside it.
func untold(t *testing.T, p api.Program, at, f int, want api.Errno) {
	t.Helper()
	if n, e := proper.In(p, at); n != 0 || e != want {
		t.Errorf("In(%s, %d): %d, %d, not %d", brief(p), at, n, e, want)
	}
	if l, e := proper.Next(p, at); len(l) != 0 || e != want {
		t.Errorf("Next(%s, %d): %v, %d, not %d", brief(p), at, l, e, want)
	}
	if l, e := proper.Reach(p, f); len(l) != 0 || e != want {
		t.Errorf("Reach(%s, %d): %v, %d, not %d", brief(p), f, l, e, want)
	}
	for _, spawned := range []bool{false, true} {
		if l, e := proper.Calls(p, f, spawned); len(l) != 0 || e != want {
			t.Errorf("Calls(%s, %d, %v): %v, %d, not %d", brief(p), f, spawned, l, e, want)
		}
	}
	if n, e := proper.Depth(p, f); n != 0 || e != want {
		t.Errorf("Depth(%s, %d): %d, %d, not %d", brief(p), f, n, e, want)
	}
}

// in asks for the function of a word.
func in(t *testing.T, p api.Program, at, want int) {
	t.Helper()
	if n, e := proper.In(p, at); n != want || e != api.OK {
		t.Errorf("In(%s, %d): %d, %d, not %d", brief(p), at, n, e, want)
	}
}

// goesOn asks for the words to which one may go on.
func goesOn(t *testing.T, p api.Program, at int, want ...int) {
	t.Helper()
	if l, e := proper.Next(p, at); !slices.Equal(l, want) || e != api.OK {
		t.Errorf("Next(%s, %d): %v, %d, not %v", brief(p), at, l, e, want)
	}
}

// reaches asks for the words of a function that can be come to.
func reaches(t *testing.T, p api.Program, f int, want ...int) {
	t.Helper()
	if l, e := proper.Reach(p, f); !slices.Equal(l, want) || e != api.OK {
		t.Errorf("Reach(%s, %d): %v, %d, not %v", brief(p), f, l, e, want)
	}
}

// calls asks for the functions that one calls.
func calls(t *testing.T, p api.Program, f int, want ...int) {
	t.Helper()
	callsOf(t, p, f, false, want)
}

// spawns asks for those that it calls or spawns.
func spawns(t *testing.T, p api.Program, f int, want ...int) {
	t.Helper()
	callsOf(t, p, f, true, want)
}

func callsOf(t *testing.T, p api.Program, f int, spawned bool, want []int) {
	t.Helper()
	if l, e := proper.Calls(p, f, spawned); !slices.Equal(l, want) || e != api.OK {
		t.Errorf("Calls(%s, %d, %v): %v, %d, not %v", brief(p), f, spawned, l, e, want)
	}
}

// deep asks for how deep a function's calls go.
func deep(t *testing.T, p api.Program, f, want int) {
	t.Helper()
	if n, e := proper.Depth(p, f); n != want || e != api.OK {
		t.Errorf("Depth(%s, %d): %d, %d, not %d", brief(p), f, n, e, want)
	}
}

// brief is a program as a test tells it.
func brief(p api.Program) string {
	var out strings.Builder
	for at := range min(len(p.Code), 12) {
		line, e := listing.Line(p, at)
		if e != api.OK {
			line = "?"
		}
		out.WriteString(line + "; ")
	}
	if len(p.Code) > 12 {
		out.WriteString(".. ")
	}
	return out.String()
}

// upTo is the numbers from 0 on, up to n.
func upTo(n int) []int {
	var out []int
	for at := range n {
		out = append(out, at)
	}
	return out
}

// coded is the word of an instruction.
func coded(t *testing.T, i api.Instr) uint32 {
	t.Helper()
	w, e := word.Encode(i)
	if e != api.OK {
		t.Fatalf("Encode(%+v): %d", i, e)
	}
	return w
}
