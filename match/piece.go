package match

import "strings"

// Kinds of what a text is cut into.
const (
	end    = iota // nothing is left
	opens         // (
	closes        // )
	star          // *
	quoted        // what stands between two "
	run           // other bytes
)

// stops are the bytes that no run has.
const stops = ` ()*"`

// piece is one of a text: its kind, and its bytes, if those are not always the same.
type piece struct {
	kind int
	text string
}

// cut is the first piece of a text, and what stands behind it. The text has no quotes that do not end.
func cut(s string) (_ piece, rest string) {
	s = strings.TrimLeft(s, " ")
	if s == "" {
		return piece{}, ""
	}
	switch s[0] {
	case '(':
		return piece{kind: opens}, s[1:]
	case ')':
		return piece{kind: closes}, s[1:]
	case '*':
		return piece{kind: star}, s[1:]
	case '"':
		text, rest, _ := strings.Cut(s[1:], `"`)
		return piece{quoted, text}, rest
	}
	n := runs(s)
	return piece{run, s[:n]}, s[n:]
}

// runs is how many bytes stand ahead of the first one that no run has.
func runs(s string) int {
	for i := range len(s) {
		if strings.IndexByte(stops, s[i]) >= 0 {
			return i
		}
	}
	return len(s)
}

// is says whether it is a run that is just so written.
func (p piece) is(sign string) bool {
	return p.kind == run && p.text == sign
}
