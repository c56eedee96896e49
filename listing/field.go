package listing

import (
	"strconv"

	"rota/api"
	"rota/word"
)

const (
	maxName   = 32 // bytes of a name
	maxDigits = 9  // of a number
)

// What has names, each kind its own.
const (
	nothing = iota
	aLabel
	aFunction
	aTable
)

// named is which kind the number of an operation stands for.
func named(op int) int {
	switch op {
	case api.OpJump, api.OpZero, api.OpSome:
		return aLabel
	case api.OpCall, api.OpSpawn:
		return aFunction
	case api.OpSelect:
		return aTable
	}
	return nothing
}

// form is how many registers an operation has, and how many numbers behind them.
func form(op int) (registers, numbers int) {
	shape, _ := word.Shape(op)
	switch shape {
	case api.ShapeA:
		return 1, 0
	case api.ShapeAB:
		return 2, 0
	case api.ShapeABC:
		return 3, 0
	case api.ShapeI:
		return 0, 1
	case api.ShapeAI, api.ShapeAS:
		return 1, 1
	}
	return 0, 0
}

// isName tells whether a word is a name.
func isName(w string) bool {
	if w == "" || len(w) > maxName || isDigit(w[0]) {
		return false
	}
	for at := range len(w) {
		if !isLetter(w[at]) && !isDigit(w[at]) {
			return false
		}
	}
	return true
}

func isDigit(b byte) bool { return '0' <= b && b <= '9' }

// isLetter tells whether a byte is a letter, or '_', which counts as one.
func isLetter(b byte) bool {
	return 'a' <= b && b <= 'z' || 'A' <= b && b <= 'Z' || b == '_'
}

// isDigits tells whether a text is digits, one or more.
func isDigits(s string) bool {
	for at := range len(s) {
		if !isDigit(s[at]) {
			return false
		}
	}
	return s != ""
}

// register is the number of a register, and whether the word is like one. A number that no register has may have any number of digits: one beyond the last stands for all of them.
func register(w string) (int, bool) {
	if w == "" || w[0] != 'r' || !isDigits(w[1:]) {
		return 0, false
	}
	digits := w[1:]
	if len(digits) > 1 && digits[0] == '0' {
		return 0, false
	}
	if len(digits) > 2 {
		return api.Registers, true
	}
	n, err := strconv.Atoi(digits)
	return n, err == nil
}

// number is the number that a word is, and whether it is one.
func number(w string) (int, bool) {
	digits := w
	if w != "" && w[0] == '-' {
		digits = w[1:]
	}
	if !isDigits(digits) || len(digits) > maxDigits {
		return 0, false
	}
	n, err := strconv.Atoi(w)
	return n, err == nil
}

// fields reads those of an operation; asked is the name that stands in the number's place, if one does.
func fields(op int, words []string) (i api.Instr, asked string, e api.Errno) {
	registers, numbers := form(op)
	if len(words) != registers+numbers {
		return api.Instr{}, "", api.ErrText
	}
	a, ok := readRegisters(words[:registers])
	if !ok {
		return api.Instr{}, "", api.ErrText
	}
	i = api.Instr{Op: op, A: a[0], B: a[1], C: a[2]}
	for _, w := range words[registers:] {
		if i.Imm, asked, ok = readNumber(op, w); !ok {
			return api.Instr{}, "", api.ErrText
		}
	}
	// All fields are of their kinds, so that Encode can refuse their ranges alone.
	if _, e := word.Encode(i); e != api.OK {
		return api.Instr{}, "", api.ErrRange
	}
	return i, asked, api.OK
}

// readRegisters reads up to three, and tells whether all are like registers.
func readRegisters(words []string) (all [3]int, ok bool) {
	for at, w := range words {
		n, ok := register(w)
		if !ok {
			return [3]int{}, false
		}
		all[at] = n
	}
	return all, true
}

// readNumber reads an operation's number, or the name that may stand in its place, and tells whether it is one of them.
func readNumber(op int, w string) (n int, asked string, ok bool) {
	if n, ok := number(w); ok {
		return n, "", true
	}
	if named(op) == nothing || !isName(w) {
		return 0, "", false
	}
	return 0, w, true
}
