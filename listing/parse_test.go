package listing_test

import (
	"strconv"
	"strings"
	"testing"

	"rota/api"
	"rota/listing"
	"rota/word"
)

// TestExamples: the chapter's examples.
func TestExamples(t *testing.T) {
	p := api.Program{
		Code:  []uint32{0x02100005, 0x06110002, 0x13100001, 0x18000000},
		Funcs: []api.Func{{Begin: 0, End: 4}},
	}
	reads(t, text("func main", "  set r1 5 ; five", "again:", "  sub r1 r1 r2", "  some r1 again", "  exit"), p)
	prints(t, p, text("func f0", "set r1 5", "L1:", "sub r1 r1 r2", "some r1 L1", "exit"))
	wrong(t, text("exit"), api.ErrPlace, 1)
	wrong(t, text("func f", "jump x", "exit"), api.ErrName, 2)
	wrong(t, text("func f", "set r16 1"), api.ErrRange, 2)
	wrong(t, text("func f", "set r1"), api.ErrText, 2)
	wrong(t, text("func f", "x:"), api.ErrPlace, 2)
	wrong(t, text("func f", "func f"), api.ErrTwice, 2)
}

// TestTextsOfNothing: D1: texts without a line that counts.
func TestTextsOfNothing(t *testing.T) {
	for _, s := range []string{"", "\n", "\n\n\n", " ", "\t\r \n \r\t", ";", ";;", "; exit", " ;func f\n;\n\t;;exit\n", "\r\n\r\n", "\n;"} {
		reads(t, s, api.Program{})
	}
}

// TestLines: D1: blanks, remarks, lines of nothing, and a last line without a newline.
func TestLines(t *testing.T) {
	p := one(t, api.Instr{Op: api.OpSet, A: 1, Imm: 5}, api.Instr{Op: api.OpExit})
	for _, s := range []string{
		"func f\nset r1 5\nexit\n",
		"func f\nset r1 5\nexit",
		"func f\r\nset r1 5\r\nexit\r\n",
		"func f\r\nset r1 5\r\nexit\r",
		"\tfunc\t\tf\t\n \t\rset \r\t r1\r5 \n\r\rexit\t",
		"\n\nfunc f\n\n  \n\t\nset r1 5\n\r\nexit\n\n\n",
		";\nfunc f;exit\nset r1 5;6\nexit ; exit\n;exit",
		"func f ; ; func f\nset r1 5 ;\n;; exit\nexit;",
		"  ; func g\nfunc f\n ;x:\nset r1 5; r2\nexit;\x00\xff\xc3",
	} {
		reads(t, s, p)
	}
}

// TestLineNumbers: D1: all lines are counted, those that count for nothing too.
func TestLineNumbers(t *testing.T) {
	wrong(t, "\n\n ;x\nexit", api.ErrPlace, 4)
	wrong(t, "func f\r\n\r\n\r\nfoo\r\n", api.ErrText, 4)
	wrong(t, "func f\n; one\rexit 1\nexit 1\n", api.ErrText, 3)
	wrong(t, "func f;\n\n\njump x\n\n", api.ErrName, 4)
	wrong(t, "foo", api.ErrText, 1)
	wrong(t, "\nfoo", api.ErrText, 2)
	wrong(t, "\n\rfoo\rfoo\n", api.ErrText, 2)
	wrong(t, strings.Repeat("\n", api.MaxText-3)+"foo", api.ErrText, api.MaxText-2)
}

// TestOtherBytesAreNoBlanks: D1: bytes 9, 13 and 32 are blanks, no others: those neither that elsewhere are blanks, in ASCII or beyond.
func TestOtherBytesAreNoBlanks(t *testing.T) {
	p := one(t, api.Instr{Op: api.OpExit})
	for b := range 256 {
		s := "func" + string([]byte{byte(b)}) + "f\nexit\n"
		switch b {
		case 9, 13, 32:
			reads(t, s, p)
		default:
			// A newline cuts the line, and a remark leaves its first word alone: both are no function.
			wrong(t, s, api.ErrText, 1)
		}
	}
	for _, s := range []string{"\u00a0", "\u0085", "\u2003", "\u3000", "\u2028", "\ufeff"} {
		wrong(t, "func"+s+"f\n", api.ErrText, 1)
		wrong(t, s+"func f\n", api.ErrText, 1)
		wrong(t, "func f"+s+"\n", api.ErrText, 1)
	}
}

// isNameByte tells of a byte whether a name may have it, at its beginning and further on.
func isNameByte(b int) (first, later bool) {
	const letters = "abcdefghijklmnopqrstuvwxyzABCDEFGHIJKLMNOPQRSTUVWXYZ_"
	c := string([]byte{byte(b)})
	return strings.Contains(letters, c), strings.Contains(letters+"0123456789", c)
}

// TestNamesOfEachByte: D1: which bytes a name has, where it is given and where it is asked for.
func TestNamesOfEachByte(t *testing.T) {
	for b := range 256 {
		if strings.ContainsRune("\n\t\r ;", rune(b)) {
			continue
		}
		first, later := isNameByte(b)
		c := string([]byte{byte(b)})
		names(t, c, first)
		names(t, c+"x", first)
		names(t, "x"+c, later)
		names(t, "x"+c+"y", later)
	}
	for _, s := range []string{"é", "xé", "ß", "x-y", "x.y", "-x", "x:y", "ſ", "\u212a"} {
		names(t, s, false)
	}
	for _, s := range []string{"_", "__", "_0", "r1", "r16", "func", "table", "default", "exit", "send", "recv", "f0", "L0", "Z9"} {
		names(t, s, true)
	}
}

// names asks for a word as a name of each kind, given and asked for.
func names(t *testing.T, s string, isName bool) {
	t.Helper()
	given := text("table "+s, "table "+s+"x default", "func "+s, s+":", "exit")
	if isName {
		reads(t, given, api.Program{Code: code(t, api.Instr{Op: api.OpExit}), Funcs: []api.Func{{Begin: 0, End: 1}}, Tables: []api.CaseTable{{}, {Default: true}}})
	} else {
		wrong(t, given, api.ErrText, 1)
	}
	for _, s := range []string{text("func " + s), text("func f", s+":", "exit"), text("table " + s + " default")} {
		if _, e, n := listing.Parse(s); (e == api.OK) != isName || !isName && (e != api.ErrText || n == 0) {
			t.Errorf("Parse(%s): %d, %d", brief(s), e, n)
		}
	}
	// A word of digits is no name, but may stand in a name's place.
	if _, err := strconv.Atoi(s); err == nil {
		return
	}
	want := api.ErrText
	if isName {
		want = api.ErrName
	}
	for _, before := range []string{"jump ", "zero r1 ", "some r1 ", "call ", "spawn r1 ", "select r1 "} {
		wrong(t, text("func zz", before+s), want, 2)
	}
	for _, before := range []string{"set r1 ", "high r1 ", "trap "} {
		wrong(t, text("func zz", before+s), api.ErrText, 2)
	}
}

// TestLongNames: D1: names of 32 bytes and of 33.
func TestLongNames(t *testing.T) {
	last := strings.Repeat("n", 31) + "9"
	for _, n := range []int{33, 34, 64, 256, 257, 1000} {
		long := strings.Repeat("n", n)
		wrong(t, text("func "+long), api.ErrText, 1)
		wrong(t, text("table "+long), api.ErrText, 1)
		wrong(t, text("func f", long+":", "exit"), api.ErrText, 2)
		wrong(t, text("func f", "jump "+long), api.ErrText, 2)
		wrong(t, text("func f", "call "+long), api.ErrText, 2)
		wrong(t, text("func f", "select r0 "+long), api.ErrText, 2)
	}
	p := one(t, api.Instr{Op: api.OpJump}, api.Instr{Op: api.OpCall}, api.Instr{Op: api.OpSelect})
	p.Tables = []api.CaseTable{{}}
	reads(t, text("table "+last, "func "+last, last+":", "jump "+last, "call "+last, "select r0 "+last), p)
	// All of their bytes count.
	other := strings.Repeat("n", 31) + "8"
	wrong(t, text("func "+last, "call "+other), api.ErrName, 2)
	reads(t, text("func "+last, "func "+other), api.Program{Funcs: []api.Func{{}, {}}})
}

// TestEachOperation: D1, D2: every operation with its least and its greatest fields; and with a word too many and too few.
func TestEachOperation(t *testing.T) {
	for op := api.OpNop; op < api.Ops; op++ {
		name, _ := word.Name(op)
		registers, numbered, least, most := shaped(op)
		for _, r := range []int{0, 7, 15} {
			for _, imm := range []int{least, most, (least + most) / 2} {
				i := api.Instr{Op: op, Imm: imm}
				line := name
				for at := range registers {
					*[]*int{&i.A, &i.B, &i.C}[at] = (r + at) % 16
					line += " r" + strconv.Itoa((r+at)%16)
				}
				if numbered {
					line += " " + strconv.Itoa(imm)
				}
				reads(t, text("func f", line), one(t, i))
				wrong(t, text("func f", line+" r1"), api.ErrText, 2)
				wrong(t, text("func f", line+" 1"), api.ErrText, 2)
				wrong(t, text("func f", line+" x"), api.ErrText, 2)
				if at := strings.LastIndex(line, " "); at >= 0 {
					wrong(t, text("func f", line[:at]), api.ErrText, 2)
				}
			}
		}
	}
}

// TestRegisters: D1: which words are registers, in each field, and which are above the last one.
func TestRegisters(t *testing.T) {
	for n := range 16 {
		r := "r" + strconv.Itoa(n)
		reads(t, text("func f", "add "+r+" r1 r2", "add r1 "+r+" r2", "add r1 r2 "+r), one(t,
			api.Instr{Op: api.OpAdd, A: n, B: 1, C: 2}, api.Instr{Op: api.OpAdd, A: 1, B: n, C: 2}, api.Instr{Op: api.OpAdd, A: 1, B: 2, C: n}))
		inEachField(t, "r0"+strconv.Itoa(n), api.ErrText)
		inEachField(t, strconv.Itoa(n), api.ErrText)
		inEachField(t, "R"+strconv.Itoa(n), api.ErrText)
	}
	for _, n := range []string{"16", "17", "20", "99", "100", "115", "255", "256", "271", "65536", "999999999", "1000000000", "4294967296", "9223372036854775808", "9999999999999999999", "18446744073709551616", "18446744073709551617", strings.Repeat("1", 100)} {
		inEachField(t, "r"+n, api.ErrRange)
	}
	for _, w := range []string{"r", "rr1", "r-1", "r-0", "r+1", "r1r", "r1.", "r 1", "r016", "r00", "r000000001", "x1", "x", "1r", "r1x", "rx1", "r１", "_", "r16x", "r1:"} {
		inEachField(t, w, api.ErrText)
	}
}

// inEachField asks for what is refused, if a word stands where a register must.
func inEachField(t *testing.T, w string, want api.Errno) {
	t.Helper()
	for _, line := range []string{
		"self " + w, "move " + w + " r1", "move r1 " + w, "add " + w + " r1 r2", "add r1 " + w + " r2", "add r1 r2 " + w,
		"set " + w + " 1", "high " + w + " 1", "zero " + w + " f", "spawn " + w + " 0", "select " + w + " 0",
	} {
		wrong(t, text("func f", line), want, 2)
	}
	for _, line := range []string{"send " + w + " r1", "send r1 " + w, "recv " + w + " r1 r2", "recv r1 " + w + " r2", "recv r1 r2 " + w} {
		wrong(t, text("table t", line), want, 2)
		wrong(t, text("func f", line), want, 2)
		wrong(t, text("table t", "send r1 r2", line), want, 3)
	}
}

// TestNumbers: D1: which words are numbers, and how many digits they have.
func TestNumbers(t *testing.T) {
	for _, c := range []struct {
		w string
		n int
	}{
		{"0", 0}, {"-0", 0}, {"00", 0}, {"000000000", 0}, {"-000000000", 0}, {"5", 5}, {"-5", -5}, {"05", 5}, {"-05", -5},
		{"000000012", 12}, {"-000000012", -12}, {"32767", 32767}, {"-32768", -32768}, {"000032767", 32767}, {"-000032768", -32768}, {"010", 10},
	} {
		reads(t, text("func f", "set r1 "+c.w), one(t, api.Instr{Op: api.OpSet, A: 1, Imm: c.n}))
	}
	for _, w := range []string{"32768", "-32769", "65535", "65536", "100000000", "999999999", "-999999999", "-100000000", "000032768"} {
		wrong(t, text("func f", "set r1 "+w), api.ErrRange, 2)
	}
	for _, w := range []string{
		"0000000000", "-0000000000", "0000000005", "1000000000", "-1000000000", "4294967297", "18446744073709551617", strings.Repeat("0", 100),
		"-", "--1", "+1", "1-", "1-1", "-x", "0x1", "1e1", "1_0", "1.0", "'1'", "x", "r1", "5x", "-5x", "１", "1\x00", "0b1", "1,0",
	} {
		for _, before := range []string{"set r1 ", "high r1 ", "trap "} {
			wrong(t, text("func f", before+w), api.ErrText, 2)
		}
		if first, _ := isNameByte(int(w[0])); !first {
			for _, before := range []string{"jump ", "zero r1 ", "some r1 ", "call ", "spawn r1 ", "select r1 "} {
				wrong(t, text("func f", before+w), api.ErrText, 2)
			}
		}
	}
}

// TestEndsOfNumbers: D1: of each operation with a number the ends of its range, and what is beyond them.
func TestEndsOfNumbers(t *testing.T) {
	for op := api.OpNop; op < api.Ops; op++ {
		registers, numbered, least, most := shaped(op)
		if !numbered {
			continue
		}
		name, _ := word.Name(op)
		before := name + strings.Repeat(" r15", registers) + " "
		for _, imm := range []int{least, least + 1, 0, 1, most - 1, most} {
			reads(t, text("func f", before+strconv.Itoa(imm)), one(t, api.Instr{Op: op, A: 15 * registers, Imm: imm}))
		}
		for _, imm := range []int{least - 1, most + 1, 65536, 65537, -65535, -65536, 131072, 999999999, -999999999} {
			wrong(t, text("func f", before+strconv.Itoa(imm)), api.ErrRange, 2)
		}
	}
}

// TestParts: D1: functions and tables in the order of their lines, words in the order of the instructions.
func TestParts(t *testing.T) {
	nop, ret, exit := api.Instr{Op: api.OpNop}, api.Instr{Op: api.OpRet}, api.Instr{Op: api.OpExit}
	reads(t, text("func f"), api.Program{Funcs: []api.Func{{}}})
	reads(t, text("func f", "func g", "func h"), api.Program{Funcs: []api.Func{{}, {}, {}}})
	reads(t, text("func f", "func g", "nop", "exit", "func h", "func i", "ret", "func j"), api.Program{
		Code: code(t, nop, exit, ret), Funcs: []api.Func{{Begin: 0, End: 0}, {Begin: 0, End: 2}, {Begin: 2, End: 2}, {Begin: 2, End: 3}, {Begin: 3, End: 3}},
	})
	reads(t, text("table t"), api.Program{Tables: []api.CaseTable{{}}})
	reads(t, text("table t", "table u default", "send r1 r2", "table v"), api.Program{
		Tables: []api.CaseTable{{}, {Default: true, Cases: []api.Case{{Send: true, Chan: 1, Val: 2}}}, {}},
	})
	reads(t, text("func f", "nop", "table t", "recv r15 r0 r15", "", "; a remark", "send r0 r15", "table u", "func g", "exit", "table v default", "func h", "ret", "table w"), api.Program{
		Code: code(t, nop, exit, ret), Funcs: []api.Func{{Begin: 0, End: 1}, {Begin: 1, End: 2}, {Begin: 2, End: 3}},
		Tables: []api.CaseTable{{Cases: []api.Case{{Chan: 15, Ok: 15}, {Send: true, Val: 15}}}, {}, {Default: true}, {}},
	})
	reads(t, text("table default", "table default2 default", "func func", "exit", "func table", "exit"), api.Program{
		Code: code(t, exit, exit), Funcs: []api.Func{{Begin: 0, End: 1}, {Begin: 1, End: 2}}, Tables: []api.CaseTable{{}, {Default: true}},
	})
}

// TestCasesAndInstructions: D1: send and recv are cases behind a table's line or its cases, else instructions; a case's registers are in the order channel, value, ok.
func TestCasesAndInstructions(t *testing.T) {
	cases := []api.Case{{Send: true, Chan: 1, Val: 2}, {Chan: 3, Val: 4, Ok: 5}}
	both := code(t, api.Instr{Op: api.OpSend, A: 1, B: 2}, api.Instr{Op: api.OpRecv, A: 3, B: 4, C: 5})
	reads(t, text("table t", "send r1 r2", "recv r3 r4 r5", "func f", "send r1 r2", "recv r3 r4 r5"), api.Program{
		Code: both, Funcs: []api.Func{{Begin: 0, End: 2}}, Tables: []api.CaseTable{{Cases: cases}},
	})
	reads(t, text("func f", "send r1 r2", "recv r3 r4 r5", "table t default", "send r1 r2", "recv r3 r4 r5"), api.Program{
		Code: both, Funcs: []api.Func{{Begin: 0, End: 2}}, Tables: []api.CaseTable{{Default: true, Cases: cases}},
	})
	// How many cases may be is layer 8's matter.
	many := api.CaseTable{}
	s := text("table t")
	for n := range 40 {
		many.Cases = append(many.Cases, api.Case{Chan: n % 16, Val: 1, Ok: 2})
		s += "recv r" + strconv.Itoa(n%16) + " r1 r2\n"
	}
	reads(t, s, api.Program{Tables: []api.CaseTable{many}})
}

// TestNamesOfKinds: D1: each kind has names of its own, a label in its function; names stand ahead of what they name, and behind it.
func TestNamesOfKinds(t *testing.T) {
	reads(t, text("func x", "x:", "call x", "jump x", "select r1 x", "zero r2 y", "spawn r3 y", "y:", "some r4 x", "table y", "table x", "func y", "x:", "y:", "call x", "jump x", "zero r5 y", "select r6 y"), api.Program{
		Code: code(t,
			api.Instr{Op: api.OpCall, Imm: 0}, api.Instr{Op: api.OpJump, Imm: 0}, api.Instr{Op: api.OpSelect, A: 1, Imm: 1},
			api.Instr{Op: api.OpZero, A: 2, Imm: 5}, api.Instr{Op: api.OpSpawn, A: 3, Imm: 1}, api.Instr{Op: api.OpSome, A: 4, Imm: 0},
			api.Instr{Op: api.OpCall, Imm: 0}, api.Instr{Op: api.OpJump, Imm: 6}, api.Instr{Op: api.OpZero, A: 5, Imm: 6}, api.Instr{Op: api.OpSelect, A: 6, Imm: 0}),
		Funcs: []api.Func{{Begin: 0, End: 6}, {Begin: 6, End: 10}}, Tables: []api.CaseTable{{}, {}},
	})
	reads(t, text("func f", "func:", "table:", "exit:", "send:", "r1:", "default:", "jump func", "jump exit", "jump send", "jump r1", "jump jump", "jump:", "jump default"), one(t,
		api.Instr{Op: api.OpJump}, api.Instr{Op: api.OpJump}, api.Instr{Op: api.OpJump}, api.Instr{Op: api.OpJump}, api.Instr{Op: api.OpJump, Imm: 5}, api.Instr{Op: api.OpJump}))
	reads(t, text("func f", "jump X", "x:", "nop", "X:", "jump x"), one(t, api.Instr{Op: api.OpJump, Imm: 2}, api.Instr{Op: api.OpNop}, api.Instr{Op: api.OpJump, Imm: 1}))
	// Numbers stand for themselves: whether they name something is layer 8's matter.
	reads(t, text("func f", "jump 7", "zero r1 65535", "call 1", "spawn r1 9", "select r1 3"), one(t,
		api.Instr{Op: api.OpJump, Imm: 7}, api.Instr{Op: api.OpZero, A: 1, Imm: 65535}, api.Instr{Op: api.OpCall, Imm: 1}, api.Instr{Op: api.OpSpawn, A: 1, Imm: 9}, api.Instr{Op: api.OpSelect, A: 1, Imm: 3}))
}

// TestBounds: D1: texts of MaxText bytes, and of more: whatever they say.
func TestBounds(t *testing.T) {
	fill := func(s string, n int) string { return s + strings.Repeat(" ", n-len(s)) }
	p := one(t, api.Instr{Op: api.OpExit})
	reads(t, fill("func f\nexit\n", api.MaxText), p)
	reads(t, fill("func f\nexit;", api.MaxText-1), p)
	reads(t, fill("", api.MaxText), api.Program{})
	wrong(t, fill("foo\n", api.MaxText), api.ErrText, 1)
	for _, more := range []int{1, 2, api.MaxText} {
		wrong(t, fill("func f\nexit\n", api.MaxText+more), api.ErrLong, 0)
		wrong(t, fill("", api.MaxText+more), api.ErrLong, 0)
		wrong(t, fill("foo\n", api.MaxText+more), api.ErrLong, 0)
		wrong(t, strings.Repeat("\n", api.MaxText+more), api.ErrLong, 0)
	}
}

// TestGreatTexts: D1, R1: as many words, labels, functions and tables as a text can have, with the last one's number named.
func TestGreatTexts(t *testing.T) {
	words := (api.MaxText - len("func f\nx:\njump x")) / len("nop\n")
	s := "func f\n" + strings.Repeat("nop\n", words) + "x:\njump x"
	p, e, n := listing.Parse(s)
	if e != api.OK || n != 0 || len(p.Code) != words+1 || p.Code[words] != 0x11000000|uint32(words) {
		t.Errorf("%d words: %d, %d, %d", words, len(p.Code), e, n)
	}
	labels := (api.MaxText - len("func f\n")) / len("a:\n")
	wrong(t, "func f\n"+strings.Repeat("a:\n", labels), api.ErrPlace, 2)
	wrong(t, "func f\n"+strings.Repeat("a:\n", labels-2)+"nop", api.ErrTwice, 3)
	for _, kind := range []struct {
		begin, ask string
		op         uint32
	}{{"func ", "call ", 0x14000000}, {"table ", "select r0 ", 0x22000000}} {
		var all strings.Builder
		count := 0
		for all.Len() < api.MaxText-100 {
			all.WriteString(kind.begin + "n" + strconv.Itoa(count) + "\n")
			count++
		}
		all.WriteString("func f\n" + kind.ask + "n" + strconv.Itoa(count-1) + "\n")
		p, e, n := listing.Parse(all.String())
		if e != api.OK || n != 0 || len(p.Code) != 1 || p.Code[0] != kind.op|uint32(count-1) {
			t.Errorf("%d of %q: %x, %d, %d", count, kind.begin, p.Code, e, n)
		}
	}
}
