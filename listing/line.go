package listing

import (
	"strings"

	"rota/api"
	"rota/word"
)

// The kinds of lines, as far as their first words tell them. A case begins as an instruction does: where it stands tells which it is.
const (
	strangeLine = iota // none of them
	funcLine
	labelLine
	tableLine
	opLine
)

// line is a line that counts: its number in the text, its words, its kind, the operation that an opLine names, and whether an instruction of the same function comes behind it.
type line struct {
	number int
	words  []string
	kind   int
	op     int
	leads  bool
}

// cut is the lines of a text that count.
func cut(text string) []line {
	var out []line
	for at, whole := range strings.Split(text, "\n") {
		told, _, _ := strings.Cut(whole, ";")
		words := strings.FieldsFunc(told, blank)
		if len(words) == 0 {
			continue
		}
		kind, op := kindOf(words[0])
		out = append(out, line{number: at + 1, words: words, kind: kind, op: op})
	}
	lookAhead(out)
	return out
}

func blank(r rune) bool { return r == ' ' || r == '\t' || r == '\r' }

// kindOf is the kind of a line with that first word, and the operation of an opLine.
func kindOf(first string) (kind, op int) {
	switch {
	case first == "func":
		return funcLine, api.OpNone
	case first == "table":
		return tableLine, api.OpNone
	case strings.HasSuffix(first, ":"):
		return labelLine, api.OpNone
	}
	op, e := word.Find(first)
	if e != api.OK {
		return strangeLine, api.OpNone
	}
	return opLine, op
}

// lookAhead finds out of each line whether an instruction comes behind it ahead of the function's end. It goes from below, so that many labels in a row do not each look through all that follows.
func lookAhead(lines []line) {
	comes := false
	for at := len(lines) - 1; at >= 0; at-- {
		lines[at].leads = comes
		switch lines[at].kind {
		case opLine:
			comes = true
		case funcLine, tableLine:
			comes = false
		}
	}
}
