package config_test

import (
	"math"
	"slices"
	"strings"
	"testing"

	"rota/api"
)

// readNumber is a number as a word.
type readNumber struct {
	word string
	n    uint64
}

// numbers is words that are numbers, rising.
func numbers() []readNumber {
	return []readNumber{
		{"0", 0}, {"1", 1}, {"9", 9}, {"10", 10}, {"63", 63}, {"64", 64}, {"65", 65}, {"100", 100}, {"65536", 65536}, {"65537", 65537},
		{"2147483646", 1<<31 - 2}, {"2147483647", 1<<31 - 1}, {"2147483648", 1 << 31}, {"4294967295", 1<<32 - 1}, {"4294967296", 1 << 32},
		{"9223372036854775807", 1<<63 - 1}, {"9223372036854775808", 1 << 63}, {"18446744073709551614", math.MaxUint64 - 1}, {"18446744073709551615", math.MaxUint64},
	}
}

// noNumbers is words that are none.
func noNumbers() []string {
	return []string{
		"00", "01", "010", "00000000000000000001", "18446744073709551616", "18446744073709551625", "99999999999999999999", "100000000000000000000", strings.Repeat("9", 1000), strings.Repeat("0", 1000),
		"-0", "-1", "+0", "+1", "--1", "1_0", "_1", "0x1", "0b1", "0o1", "1.", "1.0", "1e1", "1,0", "1;", "#1", "a", "1a", "a1", "\t1", "1\t", "1\r", "1\x00", "١", "１", "\xff", "inf", "one",
	}
}

// Z2: the head's numbers are read as they are, each of them.
func TestHeadNumbers(t *testing.T) {
	for at := range 5 {
		for _, x := range numbers() {
			l := head(1)
			word, _, _ := strings.Cut(l[at], " ")
			l[at] = word + " " + x.word
			if word == "procs" && x.n > 64 {
				wrong(t, text(l...), api.ErrHead, 2)
				continue
			}
			want := api.Config{Table: api.Table{Frame: 10, Procs: make([][]api.Slot, 1)}, Quantum: 100, Check: 61}
			switch word {
			case "frame":
				want.Table.Frame = x.n
			case "procs":
				want.Table.Procs = make([][]api.Slot, x.n)
			case "quantum":
				want.Quantum = x.n
			case "check":
				want.Check = x.n
			case "clock":
				want.Clock = x.n
			}
			reads(t, text(l...), want)
		}
	}
}

// Z2: what is no number makes a head's line wrong, each of them.
func TestHeadWithoutNumbers(t *testing.T) {
	for at := range 5 {
		for _, w := range noNumbers() {
			l := head(1)
			word, _, _ := strings.Cut(l[at], " ")
			l[at] = word + " " + w
			wrong(t, text(l...), api.ErrHead, at+1)
		}
	}
}

// Z2: procs may be any number up to 64, 0 too.
func TestHeadProcs(t *testing.T) {
	for n := range 70 {
		l := head(n)
		if n > 64 {
			wrong(t, text(l...), api.ErrHead, 2)
			continue
		}
		c := parsed(t, text(l...))
		if len(c.Table.Procs) != n {
			t.Errorf("procs %d: %d of them", n, len(c.Table.Procs))
		}
	}
	c := parsed(t, text(append(head(0), named("a")...)...))
	checks(t, "no P", c, 0, api.ErrFrame)
	wrong(t, text(append(head(0), "slot 0 0 0 1 0")...), api.ErrLine, 6)
}

// Z2: a head's line has its word and one number, no less and no more.
func TestHeadWords(t *testing.T) {
	for at := range 5 {
		whole := head(1)[at]
		word, n, _ := strings.Cut(whole, " ")
		for _, w := range []string{word, n, whole + " 1", whole + " x", whole + " # note", n + " " + word, word + word + " 1", strings.ToUpper(word) + " 1", word[:len(word)-1] + " 1", word + "s 1", word + n, word + "\t" + n, "\t" + whole, whole + "\r", whole + "\t", " #" + whole, "; " + whole, "slot 0 0 0 1 0", "port 0 1 sample", "domain a 1 0", "end"} {
			l := head(1)
			l[at] = w
			wrong(t, text(l...), api.ErrHead, at+1)
		}
	}
}

// Z2: the lines of the head stand in their order, each once.
func TestHeadOrder(t *testing.T) {
	for a := range 5 {
		for b := range 5 {
			l := head(1)
			l[a], l[b] = l[b], l[a]
			if a != b {
				wrong(t, text(l...), api.ErrHead, min(a, b)+1)
			}
		}
		l := slices.Insert(head(1), a, head(1)[a])
		if a < 4 {
			wrong(t, text(l...), api.ErrHead, a+2)
		} else {
			wrong(t, text(l...), api.ErrLine, 6)
		}
		wrong(t, text(slices.Delete(head(1), a, a+1)...), api.ErrHead, a+1)
		wrong(t, behind(head(1)[a]), api.ErrLine, 6)
	}
}

// Z2: of a head that is not there whole one more than the number of lines; behind the last newline there is a line only if there are bytes.
func TestHeadNotWhole(t *testing.T) {
	wrong(t, "", api.ErrHead, 1)
	for n := range 5 {
		s := text(head(1)[:n]...)
		wrong(t, s, api.ErrHead, n+1)
		wrong(t, strings.TrimSuffix(s, "\n"), api.ErrHead, n+1)
		for _, more := range []string{"\n", " ", "  \n", "#", "# note\n", "#\n"} {
			wrong(t, s+more, api.ErrHead, n+2)
			wrong(t, s+"\n"+more, api.ErrHead, n+3)
			wrong(t, s+"\n\n\n"+more, api.ErrHead, n+5)
		}
	}
}

// Z2: lines without words, and those whose first byte is #, count for nothing between a head's lines; and their numbers count.
func TestHeadBetween(t *testing.T) {
	want := parsed(t, text(head(2)...))
	for _, idle := range []string{"", " ", "     ", "#", "# note", "#frame 10", "#\t\x00\xff", "##"} {
		var l []string
		for _, w := range head(2) {
			l = append(l, idle, w, idle, idle)
		}
		reads(t, text(l...), want)
		for at := range 5 {
			bad := slices.Clone(l)
			bad[4*at+1] = "frame x"
			wrong(t, text(bad...), api.ErrHead, 4*at+2)
			wrong(t, text(l[:4*at+1]...), api.ErrHead, 4*at+2)
		}
		wrong(t, text(append(l, "x")...), api.ErrLine, 21)
	}
	for _, w := range []string{"\t", "\r", " #", "\t#", "\v", "\x00", "\u00a0", "\u2003", "\x85", "\xa0"} {
		wrong(t, text(slices.Insert(head(2), 3, w)...), api.ErrHead, 4)
		wrong(t, behind("", w), api.ErrLine, 7)
	}
}

// Z2: words are parted by any number of blanks, ahead of them and behind them too, and by nothing else.
func TestHeadBlanks(t *testing.T) {
	want := parsed(t, text(head(2)...))
	for at := range 5 {
		for _, blanks := range []string{" ", "  ", strings.Repeat(" ", 500)} {
			l := head(2)
			l[at] = blanks + strings.ReplaceAll(l[at], " ", blanks) + blanks
			reads(t, text(l...), want)
		}
		for _, other := range []string{"\t", "\r", "\v", "\f", "\x00", "\u00a0", "\u0085", "\u2003", "\u3000", "\xa0", "\x85", "-", "="} {
			l := head(2)
			l[at] = strings.ReplaceAll(l[at], " ", other)
			wrong(t, text(l...), api.ErrHead, at+1)
		}
	}
}

// Z2: the last line needs no newline.
func TestHeadWithoutLastNewline(t *testing.T) {
	s := text(head(2)...)
	reads(t, strings.TrimSuffix(s, "\n"), parsed(t, s))
	reads(t, s+"\n", parsed(t, s))
	reads(t, s+"#", parsed(t, s))
	reads(t, s+"  ", parsed(t, s))
}

// Z2, R2: the first wrong line of a head is told, whatever is wrong behind it.
func TestHeadTellsTheFirst(t *testing.T) {
	for at := range 5 {
		l := append(head(1), "slots", "domain a 1 0", "exti")
		for n := at; n < 5; n++ {
			l[n] = "x"
		}
		wrong(t, text(l...), api.ErrHead, at+1)
	}
}
