package listing_test

import (
	"strings"
	"testing"

	"rota/api"
)

// TestWrongLines: ErrText: lines that are of no kind, or have too many or too few words, wherever they stand.
func TestWrongLines(t *testing.T) {
	for _, line := range []string{
		"foo", "foo r1", "sett r1 1", "Exit", "EXIT", "exit.", "r1", "5", "-", "_", "default", "x", "x :", "x: exit", "x: y:", "x: x", ": x", ":", "::", "x::", "9:", "-1:", "x-y:", "é:",
		"func", "func f g", "func 1", "func f:", "func -", "Func f", "functions f", "func r1 r2",
		"table", "table 1", "table t Default", "table t default default", "table t default x", "table t x", "table t 1", "Table t", "tables t", "table default x",
		"exit exit", "exit r1", "exit 0", "nop x", "jump", "jump x y", "jump 1 2", "jump r1 1", "call", "select r1", "select t", "zero x", "zero r1", "zero r1 r2 r3",
		"set", "set r1", "set 1 r1", "set r1 1 1", "move r1", "move r1 r2 r3", "move r1 2", "add r1 r2", "add r1 r2 r3 r4", "add r1 r2 3", "self", "self r1 r2",
		"send", "send r1", "send r1 r2 r3", "send r1 2", "recv", "recv r1", "recv r1 r2", "recv r1 r2 r3 r4", "recv r1 r2 3", "send x r1",
		"set, r1 1", "set r1, 1", "set r1 1.", "set(r1, 1)", "\x00", "exit\x00", "\xff", "exit\v", "exit\f", "e\u00adxit",
	} {
		wrong(t, line, api.ErrText, 1)
		wrong(t, text(line), api.ErrText, 1)
		wrong(t, text("func main", "exit", line), api.ErrText, 3)
		wrong(t, text("func main", line, "exit"), api.ErrText, 2)
		wrong(t, text("table main", line, "func h"), api.ErrText, 2)
		wrong(t, text("table main", "recv r1 r2 r3", line), api.ErrText, 3)
	}
}

// TestPlaces: ErrPlace: instructions and labels ahead of all functions, and behind a table's line.
func TestPlaces(t *testing.T) {
	for _, line := range []string{"exit", "set r1 1", "jump x", "call f", "select r1 t", "x:", "f:"} {
		wrong(t, text(line), api.ErrPlace, 1)
		wrong(t, text(line, "func f", "exit"), api.ErrPlace, 1)
		wrong(t, text("table t", line), api.ErrPlace, 2)
		wrong(t, text("table t", line, "exit"), api.ErrPlace, 2)
		wrong(t, text("table t", "send r1 r2", "recv r1 r2 r3", line, "func f", "exit"), api.ErrPlace, 4)
		wrong(t, text("func f", "exit", "table t", line, "exit"), api.ErrPlace, 4)
		wrong(t, text("func f", "exit", "table t default", "send r1 r2", "table u", line, "exit"), api.ErrPlace, 6)
	}
	for _, line := range []string{"send r1 r2", "recv r1 r2 r3"} {
		wrong(t, text(line), api.ErrPlace, 1)
		wrong(t, text("", ";", line, "func f"), api.ErrPlace, 3)
		// Behind a table's line and an instruction a case is told no more: the instruction is the first one that is wrong.
		wrong(t, text("table t", "exit", line), api.ErrPlace, 2)
	}
	for _, line := range []string{"send r1 r2", "recv r1 r2 r3", "table u", "func g", "exit", ""} {
		parsed(t, text("func f", line, "func h"))
	}
}

// TestLabelsThatLeadNowhere: ErrPlace: a label behind which no instruction of its function comes, told of its line.
func TestLabelsThatLeadNowhere(t *testing.T) {
	wrong(t, text("func f", "x:"), api.ErrPlace, 2)
	wrong(t, text("func f", "exit", "x:"), api.ErrPlace, 3)
	wrong(t, text("func f", "exit", "x:", "", ";exit", " "), api.ErrPlace, 3)
	wrong(t, text("func f", "x:", "y:", "z:"), api.ErrPlace, 2)
	wrong(t, text("func f", "x:", "func g", "exit"), api.ErrPlace, 2)
	wrong(t, text("func f", "x:", "table t", "send r1 r2", "func g", "exit"), api.ErrPlace, 2)
	wrong(t, text("func f", "x:", "table t", "exit"), api.ErrPlace, 2)
	wrong(t, text("func f", "jump x", "x:", "table t"), api.ErrPlace, 3)
	wrong(t, text("func f", "x:", "exit", "y:", "func g", "nop"), api.ErrPlace, 4)
	for _, line := range []string{"exit", "jump x", "send r1 r2", "recv r1 r2 r3"} {
		if p := parsed(t, text("func f", "x:", "", "y:", "; z", "z:", line)); len(p.Code) != 1 {
			t.Errorf("labels ahead of %s: %+v", line, p)
		}
	}
}

// TestLabelsAheadOfWrongLines: ErrPlace: a line counts as an instruction by its first word alone, and ends the function by it alone.
func TestLabelsAheadOfWrongLines(t *testing.T) {
	for _, line := range []string{"exit r1", "set", "set r16 1", "set r1 x", "set r1 99999", "send r1", "recv r1 r2 x", "jump 1x", "call 65536"} {
		want := api.ErrText
		if strings.Contains(line, "16") || strings.Contains(line, "99") || strings.Contains(line, "65536") {
			want = api.ErrRange
		}
		wrong(t, text("func f", "x:", line), want, 3)
		wrong(t, text("func f", "x:", "y:", line, "z:"), want, 4)
		wrong(t, text("func f", "x:", line, "y:"), want, 3)
		wrong(t, text("func f", "x:", "func g", line), api.ErrPlace, 2)
		wrong(t, text("func f", "x:", "table t", line), api.ErrPlace, 2)
	}
	for _, line := range []string{"exits", "foo exit", "y: exit", "exit:", "9:", "functions f", "tables t", "Exit", "exit.", "-exit"} {
		// None of these is an instruction, and none ends the function.
		wrong(t, text("func f", "x:", line), api.ErrPlace, 2)
		wrong(t, text("func f", "x:", line, "func g", "exit"), api.ErrPlace, 2)
		if line != "exit:" {
			wrong(t, text("func f", "x:", line, "exit"), api.ErrText, 3)
		}
	}
	for _, line := range []string{"func", "func 9", "func f g", "func f", "table", "table 9", "table t x"} {
		wrong(t, text("func f", "x:", line, "exit"), api.ErrPlace, 2)
	}
}

// TestTwice: ErrTwice: a name that a line above gave to the same kind, a label in the same function.
func TestTwice(t *testing.T) {
	wrong(t, text("func f", "exit", "func g", "exit", "func f", "exit"), api.ErrTwice, 5)
	wrong(t, text("table t", "table t"), api.ErrTwice, 2)
	wrong(t, text("table t", "send r1 r2", "func t", "exit", "table u", "table t default"), api.ErrTwice, 6)
	wrong(t, text("func f", "x:", "x:", "exit"), api.ErrTwice, 3)
	wrong(t, text("func f", "x:", "nop", "y:", "nop", "x:", "exit"), api.ErrTwice, 6)
	wrong(t, text("func f", "x:", "exit", "func g", "x:", "exit", "x:", "exit"), api.ErrTwice, 7)
	wrong(t, text("func f", "exit", "table t", "func f"), api.ErrTwice, 4)
	wrong(t, text("func x", "func y", "func x", "func x"), api.ErrTwice, 3)
	reads(t, text("func f", "func F", "table f", "table F"), api.Program{Funcs: []api.Func{{}, {}}, Tables: []api.CaseTable{{}, {}}})
}

// TestWhichIsToldOfALine: ErrText comes ahead of ErrRange, that ahead of ErrPlace, that ahead of ErrTwice.
func TestWhichIsToldOfALine(t *testing.T) {
	for _, line := range []string{"set r16", "set r16 x", "set r16 1 1", "set r16 0000000000", "set x 99999", "add r16 r1 x", "add x r1 r16", "add r1 r16 016", "jump 65536 1", "select r16 -", "zero r16 1x", "call 99999 f", "send r16", "recv r16 r1 x"} {
		wrong(t, text("func f", line), api.ErrText, 2)
		wrong(t, text(line), api.ErrText, 1)
		wrong(t, text("table t", line), api.ErrText, 2)
	}
	for _, line := range []string{"set r16 1", "set r1 32768", "set r16 32768", "jump 65536", "jump -1", "zero r16 x", "zero r1 -1", "some r1 65536", "call -1", "call 65536", "spawn r16 f", "spawn r1 65536", "select r1 -1", "select r16 t", "high r1 -1", "trap 65536", "send r16 r1", "recv r1 r2 r16"} {
		wrong(t, text(line), api.ErrRange, 1)
		wrong(t, text("func f", line), api.ErrRange, 2)
		wrong(t, text("table t", line), api.ErrRange, 2)
		wrong(t, text("func f", "exit", "table t", "send r1 r2", line), api.ErrRange, 5)
	}
	wrong(t, text("x:"), api.ErrPlace, 1)
	wrong(t, text("func f", "x:", "exit", "x:"), api.ErrPlace, 4)
	wrong(t, text("func f", "x:", "exit", "table t", "x:", "exit"), api.ErrPlace, 5)
	wrong(t, text("func f", "x:", "exit", "x: x"), api.ErrText, 4)
	wrong(t, text("func f", "func f g"), api.ErrText, 2)
	wrong(t, text("table t", "table t x"), api.ErrText, 2)
}

// TestWhichLineIsTold: the first line that is wrong by itself, whatever is wrong with later ones.
func TestWhichLineIsTold(t *testing.T) {
	lines := []struct {
		line string
		e    api.Errno
	}{{"foo", api.ErrText}, {"set r16 1", api.ErrRange}, {"x:", api.ErrTwice}, {"func f", api.ErrTwice}, {"table t", api.ErrTwice}}
	for _, a := range lines {
		for _, b := range lines {
			wrong(t, text("table t", "func f", "x:", "exit", a.line, "exit", b.line, "exit"), a.e, 5)
			// A name that is not there counts for nothing, if a line is wrong, be it above.
			wrong(t, text("table t", "func f", "x:", "jump nowhere", a.line, "exit", b.line), a.e, 5)
		}
		wrong(t, text("exit", a.line), api.ErrPlace, 1)
		wrong(t, text("func g", "y:", "func f", "table t", a.line), api.ErrPlace, 2)
	}
	wrong(t, text("func f", "call g", "exit", "exit exit"), api.ErrText, 4)
	wrong(t, text("func f", "call g", "y:"), api.ErrPlace, 3)
}

// TestMissingNames: ErrName: the line of the first name that is not there, or not of that kind, or not in that function.
func TestMissingNames(t *testing.T) {
	for _, line := range []string{"jump n", "zero r1 n", "some r1 n", "call n", "spawn r1 n", "select r1 n"} {
		wrong(t, text("func f", line), api.ErrName, 2)
		wrong(t, text("func f", "nop", line, "jump m", "call m", "select r0 m"), api.ErrName, 3)
		wrong(t, text("func f", "exit", "table t", "func g", "jump 9", line), api.ErrName, 6)
		wrong(t, text("func N", "N:", line, "n1:", "nop", "table N", "func n1", "table n1"), api.ErrName, 3)
	}
	for _, line := range []string{"jump n", "zero r1 n", "some r1 n"} {
		wrong(t, text("func n", line, "table n"), api.ErrName, 2)
		wrong(t, text("func f", "n:", "exit", "func g", line), api.ErrName, 5)
		wrong(t, text("func f", line, "func g", "n:", "exit"), api.ErrName, 2)
	}
	for _, line := range []string{"call n", "spawn r1 n"} {
		wrong(t, text("func f", "n:", line, "table n"), api.ErrName, 3)
	}
	wrong(t, text("func n", "n:", "select r1 n"), api.ErrName, 3)
	wrong(t, text("func f", "select r1 n", "call n", "jump n"), api.ErrName, 2)
	wrong(t, text("func f", "x:", "jump x", "call f", "call g", "jump y"), api.ErrName, 5)
	// The first by its line, not by its kind, nor by its function.
	wrong(t, text("func f", "select r1 n", "jump n"), api.ErrName, 2)
	wrong(t, text("func f", "call n", "jump n"), api.ErrName, 2)
	wrong(t, text("func f", "jump n", "call n"), api.ErrName, 2)
}
