package desk

import (
	"iter"
	"strconv"
	"strings"

	"concordance/api"
)

const (
	feed  = "\n" // between lines
	blank = " "  // between words
	comma = ", " // between rows
)

// lines are a text's: there is always one.
func lines(text string) iter.Seq[string] {
	return func(yield func(string) bool) {
		line, rest, more := strings.Cut(strings.TrimSuffix(text, feed), feed)
		for yield(line) && more {
			line, rest, more = strings.Cut(rest, feed)
		}
	}
}

// fields are a line's words.
func fields(line string) []string {
	return strings.FieldsFunc(line, isBlank)
}

// isBlank says whether words end there. A tab, or what else is white, is a part of a word, as it is where words are looked for.
func isBlank(r rune) bool { return r == ' ' }

// joined are words as one text.
func joined(words []string) string {
	return strings.Join(words, blank)
}

// number is the number that is just so written. It throws.
func number(word string) int {
	n, err := strconv.ParseInt(word, 10, 64)
	// A sign or a nought that says nothing is not told again.
	must(err == nil && strconv.FormatInt(n, 10) == word, api.ErrForm)
	return int(n)
}
