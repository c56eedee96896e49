package config_test

import (
	"slices"
	"strings"
	"testing"

	"rota/api"
	"rota/listing"
)

// within is the text of a domain with a program's lines; the domain's line is the line 6, and the first of them the line 7.
func within(lines ...string) string {
	return behind(slices.Concat([]string{"domain a 4 0"}, lines, []string{"end"})...)
}

// holds asks for the program of the first domain of a text.
func holds(t *testing.T, s string, want api.Program) {
	t.Helper()
	c := parsed(t, s)
	if len(c.Tenants) != 1 || !same(api.Config{Tenants: []api.Tenant{{Program: c.Tenants[0].Program}}}, api.Config{Tenants: []api.Tenant{{Program: want}}}) {
		t.Errorf("Parse(%s): %s, not %+v", brief(s), brief(told(c)), want)
	}
}

// Z2: the lines between a domain's and its end are the program's, as layer 7 reads them.
func TestPrograms(t *testing.T) {
	for _, l := range [][]string{
		{},
		{""},
		{"func main"},
		{"func main", "exit"},
		{"func main", "", "  ; a remark", "\texit\r"},
		{"table t default", "send r1 r2", "recv r3 r4 r5", "func main", "x:", "select r1 t", "jump x", "func f", "ret"},
		{"func end", "end:", "jump end"},
		{"func main", "; domain b 1 0", ";end", ";# note", "exit"},
	} {
		want, e, _ := listing.Parse(text(l...))
		if e != api.OK {
			t.Fatalf("%q: %d", l, e)
		}
		holds(t, within(l...), want)
		holds(t, strings.TrimSuffix(within(l...), "\n"), want)
	}
}

// Z2: a program without lines is read; Check refuses it.
func TestProgramWithoutLines(t *testing.T) {
	holds(t, within(), api.Program{})
	checks(t, "no lines", parsed(t, within()), 0, api.ErrCode)
	holds(t, within("func main"), api.Program{Funcs: []api.Func{{Begin: 0, End: 0}}})
	checks(t, "no instructions", parsed(t, within("func main")), 0, api.ErrCode)
}

// Z2: lines that look like comments, like kinds of lines, or almost like an end, are the program's, and wrong there.
func TestProgramLinesThatLookLikeOthers(t *testing.T) {
	for _, w := range []string{
		"#", "# note", " # note", "slot 0 0 0 1 0", "port 0 1 sample", "domain b 1 0", "frame 10", "clock 0",
		"end ", " end", "end\t", "end\r", "end #", "end # note", "end ;", "end ; note", "end;", "End", "END", "end end", "ends", "\x00end", "exti",
	} {
		s := within("func main", w, "exit")
		wrong(t, s, api.ErrCode, 8)
		wrong(t, behind("domain a 4 0", "func main", "exit", w, "end", "x"), api.ErrCode, 9)
	}
	wrong(t, behind("domain a 4 0", "func main", "exit", "end ; note"), api.ErrCode, 6)
	wrong(t, behind("domain a 4 0", "func main", "exit", " end"), api.ErrCode, 6)
}

// Z2: the first end that is just that ends the program: what is behind it is read as other lines are.
func TestProgramEndsAtTheFirstEnd(t *testing.T) {
	wrong(t, behind(append(named("a"), "end")...), api.ErrLine, 10)
	wrong(t, behind("domain a 4 0", "end", "func main"), api.ErrLine, 8)
	c := parsed(t, behind(slices.Concat(named("a"), []string{"# note", "slot 1 0 0 1 0"}, named("b"))...))
	if len(c.Tenants) != 2 || len(c.Table.Procs[1]) != 1 {
		t.Errorf("%+v", c)
	}
}

// Z2: where the end is missing the domain's line is wrong, whatever the lines behind it are.
func TestProgramWithoutEnd(t *testing.T) {
	for _, l := range [][]string{
		{}, {""}, {"func main"}, {"func main", "exit"}, {"func main", "exti"}, {"x", "y"}, {"slot 0 0 0 1 0"}, {"domain b 1 0"}, {"#"}, {"end "}, {"ends"},
	} {
		s := behind(append([]string{"domain a 4 0"}, l...)...)
		wrong(t, s, api.ErrCode, 6)
		wrong(t, strings.TrimSuffix(s, "\n"), api.ErrCode, 6)
		wrong(t, s+"en", api.ErrCode, 6)
		wrong(t, behind(slices.Concat(named("z"), []string{"", "domain a 4 0"}, l)...), api.ErrCode, 11)
	}
}

// Z2: a line that layer 7 refuses is told by its number in the whole text, of each of its errors.
func TestProgramLinesThatAreWrong(t *testing.T) {
	for _, x := range []struct {
		l  []string
		at int
	}{
		{[]string{"exit"}, 1},
		{[]string{"func f", "jump x", "exit"}, 2},
		{[]string{"func f", "set r16 1"}, 2},
		{[]string{"func f", "set r1"}, 2},
		{[]string{"func f", "x:"}, 2},
		{[]string{"func f", "func f"}, 2},
		{[]string{"", "", "; note", "func f", "", "exit", "exti"}, 7},
		{[]string{"func f", "call g", "exit", "ret r1"}, 4},
		{[]string{"func f", "call g", "exit", "call h"}, 2},
		{[]string{"func f", "exit", "table t", "send r1"}, 4},
	} {
		_, e, at := listing.Parse(text(x.l...))
		if e == api.OK || at != x.at {
			t.Fatalf("%q: layer 7 tells %d, %d", x.l, e, at)
		}
		wrong(t, within(x.l...), api.ErrCode, 6+x.at)
		s := behind(slices.Concat([]string{"", "# note"}, named("b"), []string{"domain a 1 1"}, x.l, []string{"end", "x"})...)
		wrong(t, s, api.ErrCode, 12+x.at)
	}
}

// Z2, R2: of wrong lines the first, whether it is a program's or another one.
func TestProgramsTellTheFirst(t *testing.T) {
	bad := []string{"domain a 1 0", "func main", "exti", "end"}
	wrong(t, behind(append([]string{"x"}, bad...)...), api.ErrLine, 6)
	wrong(t, behind(append(slices.Clone(bad), "x")...), api.ErrCode, 8)
	wrong(t, behind(slices.Concat(bad, bad)...), api.ErrCode, 8)
	wrong(t, behind(slices.Concat(named("b"), bad, bad)...), api.ErrCode, 12)
	wrong(t, behind(slices.Concat(bad, []string{"domain b 1 0"})...), api.ErrCode, 8)
	wrong(t, behind(slices.Concat([]string{"domain 1 1 0"}, bad[1:])...), api.ErrLine, 6)
	wrong(t, behind(slices.Concat([]string{"domain b 2147483648 0"}, bad[1:])...), api.ErrLine, 6)
	wrong(t, behind("domain b 1", "func main"), api.ErrLine, 6)
	wrong(t, text(append(head(1)[:4], bad...)...), api.ErrHead, 5)
}

// Z2: a text of more than 262144 bytes is refused, whatever it is; one of just so many is read.
func TestLongTexts(t *testing.T) {
	s := within("func main", "exit")
	for _, whole := range []string{
		s + strings.Repeat("\n", api.MaxText-len(s)),
		s + "#" + strings.Repeat("x", api.MaxText-len(s)-1),
		s + strings.Repeat(" ", api.MaxText-len(s)),
		strings.Repeat("\n", api.MaxText-len(s)) + s,
		strings.Replace(s, "exit\n", "exit"+strings.Repeat("\n", api.MaxText-len(s)+1), 1),
		strings.Replace(s, "exit\n", "exit;"+strings.Repeat("x", api.MaxText-len(s)-1)+"\n", 1),
	} {
		if len(whole) != api.MaxText {
			t.Fatalf("%d bytes", len(whole))
		}
		holds(t, whole, program("func main", "exit"))
		wrong(t, whole+"\n", api.ErrFull, 0)
		wrong(t, " "+whole, api.ErrFull, 0)
		wrong(t, "x"+whole, api.ErrFull, 0)
		wrong(t, "x"+whole[1:], api.ErrHead, 1)
	}
	wrong(t, strings.Repeat("x", api.MaxText+1), api.ErrFull, 0)
	wrong(t, strings.Repeat("x", api.MaxText), api.ErrHead, 1)
	wrong(t, strings.Repeat("\n", api.MaxText), api.ErrHead, api.MaxText+1)
	wrong(t, strings.Repeat("\n", api.MaxText+1), api.ErrFull, 0)
}
