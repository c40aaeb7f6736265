package lex

import (
	"strings"

	"concordance/word"
)

// mostDigits is how many digits a Number has at most.
const mostDigits = 19

// quote stands at both ends of a String; one that stands in it is written twice.
const quote = '\''

// marks stand in the order in which they are looked for: none stands behind one that it begins with, so that the first one that stands there is the longest.
var marks = [...]string{"<>", "<=", ">=", "<", ">", "=", "+", "-", "*", "(", ")", ",", ".", ";"}

// first is which kind of token a text begins with, and of how many bytes: of 0, if it is none. The text has at least one byte.
func first(s string) (kind, size int) {
	switch c := s[0]; {
	case c == quote:
		return String, quoted(s)
	case digit(c):
		return Number, run(s, digit)
	case ofName(c):
		return Name, run(s, ofName)
	}
	return Mark, marked(s)
}

// text is what a token says, of which these are the bytes: a copy, as an answer shares no memory with what was handed in.
func text(kind int, s string) string {
	switch kind {
	case Name:
		return word.Small(s)
	case String:
		s = strings.ReplaceAll(s[1:len(s)-1], "''", "'")
	}
	return strings.Clone(s)
}

// blanks is how many bytes at the beginning of a text are nothing.
func blanks(s string) int { return run(s, blank) }

// quoted is how many bytes the String has with which a text begins: 0, if it does not end.
func quoted(s string) int {
	at := 1
	for {
		n := strings.IndexByte(s[at:], quote)
		if n < 0 {
			return 0
		}
		at += n + 1
		if at == len(s) || s[at] != quote {
			return at
		}
		at++
	}
}

// marked is how many bytes the Mark has with which a text begins: 0, if there is none.
func marked(s string) int {
	for _, m := range marks {
		if strings.HasPrefix(s, m) {
			return len(m)
		}
	}
	return 0
}

// run is how many bytes stand ahead of the first one that is not so.
func run(s string, so func(byte) bool) int {
	for i := range len(s) {
		if !so(s[i]) {
			return i
		}
	}
	return len(s)
}

func blank(c byte) bool { return c == ' ' || c == '\t' || c == '\r' || c == '\n' }

func digit(c byte) bool { return c >= '0' && c <= '9' }

func ofName(c byte) bool {
	return c >= 'a' && c <= 'z' || c >= 'A' && c <= 'Z' || c == '_' || digit(c)
}
