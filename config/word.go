package config

import "strconv"

const (
	maxName  = 32        // bytes of a name
	maxSmall = 1<<31 - 1 // what a line behind the head can tell of domains, goroutines, cells and values
)

// isName tells whether a word is a name: as a program's names are (layer 7).
func isName(w string) bool {
	if w == "" || len(w) > maxName || isDigit(w[0]) {
		return false
	}
	for at := range len(w) {
		if !isLetter(w[at]) && !isDigit(w[at]) {
			return false
		}
	}
	return true
}

func isDigit(b byte) bool { return '0' <= b && b <= '9' }

// isLetter tells whether a byte is a letter, or '_', which counts as one.
func isLetter(b byte) bool {
	return 'a' <= b && b <= 'z' || 'A' <= b && b <= 'Z' || b == '_'
}

// number is the number that a word is, and whether it is one, and at most most.
func number(w string, most uint64) (uint64, bool) {
	if len(w) > 1 && w[0] == '0' {
		return 0, false
	}
	n, err := strconv.ParseUint(w, 10, 64)
	if err != nil || n > most {
		return 0, false
	}
	return n, true
}
