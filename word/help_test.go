package word_test

import (
	"math"
	"strings"
	"testing"

	"rota/api"
	"rota/word"
)

// row is a row of the document's table, in its words: the shape without Shape, the registers by the letters of their fields, or all.
type row struct {
	op            int
	name, shape   string
	cost          int
	reads, writes string
}

// rows is the document's table.
func rows() []row {
	return []row{
		{api.OpNop, "nop", "", 1, "", ""},
		{api.OpSet, "set", "AS", 1, "", "a"},
		{api.OpHigh, "high", "AI", 1, "a", "a"},
		{api.OpMove, "move", "AB", 1, "b", "a"},
		{api.OpAdd, "add", "ABC", 1, "b c", "a"},
		{api.OpSub, "sub", "ABC", 1, "b c", "a"},
		{api.OpMul, "mul", "ABC", 3, "b c", "a"},
		{api.OpDiv, "div", "ABC", 8, "b c", "a"},
		{api.OpRem, "rem", "ABC", 8, "b c", "a"},
		{api.OpAnd, "and", "ABC", 1, "b c", "a"},
		{api.OpOr, "or", "ABC", 1, "b c", "a"},
		{api.OpXor, "xor", "ABC", 1, "b c", "a"},
		{api.OpShl, "shl", "ABC", 1, "b c", "a"},
		{api.OpShr, "shr", "ABC", 1, "b c", "a"},
		{api.OpLess, "less", "ABC", 1, "b c", "a"},
		{api.OpEqual, "equal", "ABC", 1, "b c", "a"},
		{api.OpJump, "jump", "I", 1, "", ""},
		{api.OpZero, "zero", "AI", 1, "a", ""},
		{api.OpSome, "some", "AI", 1, "a", ""},
		{api.OpCall, "call", "I", 2, "", ""},
		{api.OpRet, "ret", "", 2, "", ""},
		{api.OpSpawn, "spawn", "AI", 4, "all", "a"},
		{api.OpYield, "yield", "", 1, "", ""},
		{api.OpExit, "exit", "", 1, "", ""},
		{api.OpSelf, "self", "A", 1, "", "a"},
		{api.OpNow, "now", "A", 1, "", "a"},
		{api.OpSleep, "sleep", "A", 1, "a", ""},
		{api.OpMake, "make", "AB", 4, "b", "a"},
		{api.OpSend, "send", "AB", 2, "a b", ""},
		{api.OpRecv, "recv", "ABC", 2, "c", "a b"},
		{api.OpClose, "close", "A", 2, "a", ""},
		{api.OpLen, "len", "AB", 1, "b", "a"},
		{api.OpCap, "cap", "AB", 1, "b", "a"},
		{api.OpSelect, "select", "AI", 4, "all", "all"},
		{api.OpLock, "lock", "A", 2, "a", ""},
		{api.OpUnlock, "unlock", "A", 2, "a", ""},
		{api.OpRLock, "rlock", "A", 2, "a", ""},
		{api.OpRUnlock, "runlock", "A", 2, "a", ""},
		{api.OpWAdd, "wadd", "AB", 2, "a b", ""},
		{api.OpWDone, "wdone", "A", 2, "a", ""},
		{api.OpWWait, "wwait", "A", 2, "a", ""},
		{api.OpCWait, "cwait", "AB", 3, "a b", ""},
		{api.OpSignal, "signal", "A", 2, "a", ""},
		{api.OpBroadcast, "broadcast", "A", 3, "a", ""},
		{api.OpAcquire, "acquire", "A", 2, "a", ""},
		{api.OpRelease, "release", "A", 2, "a", ""},
		{api.OpLoad, "load", "AB", 2, "b", "a"},
		{api.OpStore, "store", "AB", 2, "a b", ""},
		{api.OpSwap, "swap", "ABC", 3, "a b c", "a"},
		{api.OpFetch, "fetch", "ABC", 3, "b c", "a"},
		{api.OpInput, "input", "AB", 2, "", "a b"},
		{api.OpOutput, "output", "A", 2, "a", ""},
		{api.OpPut, "put", "ABC", 2, "a b", "c"},
		{api.OpGet, "get", "ABC", 2, "c", "a b"},
		{api.OpAfter, "after", "ABC", 3, "b c", "a"},
		{api.OpEvery, "every", "ABC", 3, "b c", "a"},
		{api.OpStop, "stop", "AB", 2, "b", "a"},
		{api.OpTrap, "trap", "I", 1, "", ""},
	}
}

// shapeNumber is api's number of a shape.
func shapeNumber(shape string) int {
	return map[string]int{
		"": api.ShapeNone, "A": api.ShapeA, "AB": api.ShapeAB, "ABC": api.ShapeABC,
		"I": api.ShapeI, "AI": api.ShapeAI, "AS": api.ShapeAS,
	}[shape]
}

// picture is a shape's word, four bits a letter, from the highest on: o the operation, a, b and c registers, i a number, s one with a sign, 0 what belongs to no field.
func picture(shape string) string {
	return map[string]string{
		"":    "oo000000",
		"A":   "ooa00000",
		"AB":  "ooab0000",
		"ABC": "ooab000c",
		"I":   "oo00iiii",
		"AI":  "ooa0iiii",
		"AS":  "ooa0ssss",
	}[shape]
}

// span is the numbers that Imm may be in a shape, both ends with it.
func span(shape string) (least, most int) {
	switch shape {
	case "I", "AI":
		return 0, 65535
	case "AS":
		return -32768, 32767
	}
	return 0, 0
}

// hasField tells whether a shape has a field.
func hasField(shape, field string) bool {
	if field == "imm" {
		_, most := span(shape)
		return most > 0
	}
	return strings.Contains(picture(shape), field)
}

// setField is an instruction with another number in a field.
func setField(i api.Instr, field string, n int) api.Instr {
	*map[string]*int{"a": &i.A, "b": &i.B, "c": &i.C, "imm": &i.Imm}[field] = n
	return i
}

func fields() []string { return []string{"a", "b", "c", "imm"} }

// modelEncode is the word of an instruction that may be, drawn letter by letter.
func modelEncode(r row, i api.Instr) uint32 {
	parts := map[rune]int{'o': i.Op, 'a': i.A, 'b': i.B, 'c': i.C, 'i': i.Imm, 's': i.Imm}
	if i.Imm < 0 {
		parts['s'] += 65536
	}
	w, scale, letters := 0, 1, []rune(picture(r.shape))
	for at := len(letters) - 1; at >= 0; at-- {
		w += parts[letters[at]] % 16 * scale
		parts[letters[at]] /= 16
		scale *= 16
	}
	return uint32(w)
}

// modelDecode is what a word of that operation must be read as, letter by letter.
func modelDecode(r row, w uint32) (api.Instr, api.Errno) {
	parts := map[rune]int{}
	for at, letter := range picture(r.shape) {
		parts[letter] = parts[letter]*16 + int(w>>(28-4*at))%16
	}
	if parts['0'] != 0 {
		return api.Instr{}, api.ErrField
	}
	if parts['s'] >= 32768 {
		parts['s'] -= 65536
	}
	return api.Instr{Op: r.op, A: parts['a'], B: parts['b'], C: parts['c'], Imm: parts['i'] + parts['s']}, api.OK
}

// modelUses is the bits of the registers that the table names so, of an instruction.
func modelUses(what string, i api.Instr) uint16 {
	if what == "all" {
		return 65535
	}
	var out uint16
	for _, field := range strings.Fields(what) {
		out |= 1 << map[string]int{"a": i.A, "b": i.B, "c": i.C}[field]
	}
	return out
}

// some is numbers that a field of an instruction that may be can have: all registers; of Imm its ends, and some between; 0 of one that it has not.
func some(shape, field string) []int {
	if !hasField(shape, field) {
		return []int{0}
	}
	if field != "imm" {
		return []int{0, 1, 2, 3, 4, 5, 6, 7, 8, 9, 10, 11, 12, 13, 14, 15}
	}
	least, most := span(shape)
	var out []int
	for _, n := range []int{least, least + 1, -256, -16, -1, 0, 1, 7, 15, 16, 255, 256, 4095, 4096, 32767, 32768, most - 1, most} {
		if least <= n && n <= most {
			out = append(out, n)
		}
	}
	return out
}

// each hands over instructions that may be of an operation: all registers with all, and with some numbers.
func each(r row, do func(api.Instr)) {
	for _, a := range some(r.shape, "a") {
		for _, b := range some(r.shape, "b") {
			for _, c := range some(r.shape, "c") {
				for _, imm := range some(r.shape, "imm") {
					do(api.Instr{Op: r.op, A: a, B: b, C: c, Imm: imm})
				}
			}
		}
	}
}

// wrongNumbers is numbers that a field may not be: just outside its range, and far away, those too that come back into it where bits are cut off.
func wrongNumbers(shape, field string) []int {
	least, most := 0, 0
	if field == "imm" {
		least, most = span(shape)
	} else if hasField(shape, field) {
		most = 15
	}
	var out []int
	for _, n := range []int{
		least - 1, most + 1, -1, 1, 15, 16, 17, -15, -16, -17, 255, 256, -256, 4096, 32768, 40000, -32769, 65535, 65536, 65537, -65535, -65536,
		1 << 20, 1 << 24, 1 << 31, 1 << 32, 1<<32 + 1, -1 << 31, -1 << 32, 1 << 48, math.MaxInt, math.MinInt, math.MaxInt - 15, math.MinInt + 1,
	} {
		if n < least || n > most {
			out = append(out, n)
		}
	}
	return out
}

// notOperations is numbers that are no operation: around all of them, and beyond a byte.
func notOperations() []int {
	out := []int{
		-1 << 8, -1<<8 + 1, 1 << 8, 1<<8 + 1, 1 << 16, 1<<16 + 1, 1 << 24, 1 << 31, -1 << 31, 1 << 32, 1<<32 + 1, -1<<32 + 1,
		math.MaxInt, math.MinInt, math.MinInt + 1,
	}
	for op := -300; op <= 0; op++ {
		out = append(out, op)
	}
	for op := api.Ops; op <= 600; op++ {
		out = append(out, op)
	}
	return out
}

// bothWays asks for the word of an instruction, and for the instruction of that word.
func bothWays(t *testing.T, i api.Instr, w uint32) {
	t.Helper()
	if got, e := word.Encode(i); got != w || e != api.OK {
		t.Fatalf("Encode(%+v): %08x, %d, not %08x", i, got, e, w)
	}
	if got, e := word.Decode(w); got != i || e != api.OK {
		t.Fatalf("Decode(%08x): %+v, %d, not %+v", w, got, e, i)
	}
}

// refused asks all that refuse an instruction: each answers that error, and zero beside it.
func refused(t *testing.T, i api.Instr, want api.Errno) {
	t.Helper()
	if w, e := word.Encode(i); w != 0 || e != want {
		t.Fatalf("Encode(%+v): %08x, %d, not 0, %d", i, w, e, want)
	}
	if r, e := word.Reads(i); r != 0 || e != want {
		t.Fatalf("Reads(%+v): %b, %d, not 0, %d", i, r, e, want)
	}
	if r, e := word.Writes(i); r != 0 || e != want {
		t.Fatalf("Writes(%+v): %b, %d, not 0, %d", i, r, e, want)
	}
}

// unread asks Decode of a word that it refuses.
func unread(t *testing.T, w uint32, want api.Errno) {
	t.Helper()
	if i, e := word.Decode(w); i != (api.Instr{}) || e != want {
		t.Fatalf("Decode(%08x): %+v, %d, not zeros, %d", w, i, e, want)
	}
}
