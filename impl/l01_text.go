package impl

import (
	"iter"
	"strconv"
	"strings"
)

const MaxText = 6000

const maxDec = 9999999999

func DecText(n int) string { return strconv.Itoa(n) }

// ReadDec compares with DecText because strconv also takes a plus, needless noughts and -0.
func ReadDec(s string) (int, bool) {
	n, err := strconv.Atoi(s)
	if err != nil || n < -maxDec || n > maxDec || DecText(n) != s {
		return 0, false
	}
	return n, true
}

func HexText(n uint32) string { return strconv.FormatUint(uint64(n), 16) }

// ReadHex compares with HexText because strconv also takes big letters and needless noughts.
func ReadHex(s string) (uint32, bool) {
	wide, err := strconv.ParseUint(s, 16, 32)
	n := uint32(wide)
	if err != nil || HexText(n) != s {
		return 0, false
	}
	return n, true
}

func Lines(s string) []string {
	var lines []string
	for part := range parts(s, isNewline) {
		lines = append(lines, part)
	}
	last := len(lines) - 1
	if lines[last] == "" {
		return lines[:last]
	}
	return lines
}

func Words(s string) []string {
	var words []string
	for part := range parts(s, isSpace) {
		if part != "" {
			words = append(words, part)
		}
	}
	return words
}

// parts tells the parts of s between the signs that cut it, in order, empty ones too; there is always at least one.
// Each part is a copy, because an answer shares no memory with an argument.
// A sign that cuts must be one byte long.
func parts(s string, cuts func(sign rune) bool) iter.Seq[string] {
	return func(yield func(part string) bool) {
		from := 0
		for at, sign := range s {
			if !cuts(sign) {
				continue
			}
			if !yield(strings.Clone(s[from:at])) {
				return
			}
			from = at + 1
		}
		yield(strings.Clone(s[from:]))
	}
}

func isNewline(sign rune) bool { return sign == '\n' }

func isSpace(sign rune) bool { return sign == ' ' || sign == '\n' || sign == '\t' }
