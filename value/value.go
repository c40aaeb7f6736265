// Package value: values, their order, and how they are written.
package value

import (
	"cmp"
	"slices"

	"concordance/api"
)

// numberBytes is how many bytes a number is written in, behind its kind.
const numberBytes = 8

// shift is added to a number ahead of writing it, so that numbers below 0 stand ahead of the others as bytes, too.
const shift uint64 = 1 << 63

// textEnd stands behind a text: no letter is as small, so a text that is another one's beginning stands ahead of it as bytes, too.
const textEnd byte = 0

// Right says whether a value may be: nothing, a number alone, or a text of at most MaxLetter letters alone, none of them 0.
func Right(v api.Value) (_ bool) {
	switch v.Kind {
	case api.Null:
		return v.Num == 0 && v.Text == ""
	case api.Int:
		return v.Text == ""
	case api.Text:
		return v.Num == 0 && rightText(v.Text)
	}
	return false
}

func rightText(s string) bool {
	return len(s) <= api.MaxLetter && letters(s) == len(s)
}

// letters is how many bytes stand ahead of the first end of a text.
func letters(s string) int {
	for i := range len(s) {
		if s[i] == textEnd {
			return i
		}
	}
	return len(s)
}

// Compare is the order of values: nothing, numbers, texts (byte by byte).
func Compare(a, b api.Value) (_ int) {
	if a.Kind != b.Kind {
		return cmp.Compare(a.Kind, b.Kind)
	}
	if a.Num != b.Num {
		return cmp.Compare(a.Num, b.Num)
	}
	return cmp.Compare(a.Text, b.Text)
}

// Order is the order of lists: the first two that are unlike; a beginning stands first.
func Order(a, b []api.Value) (_ int) {
	return slices.CompareFunc(a, b, Compare)
}

// Key is a list as bytes that have its order. ErrArg: a value may not be: an At at it.
func Key(l []api.Value) (_ string, _ error) {
	var b []byte
	for i, v := range l {
		if !Right(v) {
			return "", &api.At{Err: api.ErrArg, Place: i}
		}
		b = appendValue(b, v)
	}
	return string(b), nil
}

// appendValue writes a value that is Right behind b.
func appendValue(b []byte, v api.Value) []byte {
	b = append(b, byte(v.Kind+1))
	switch v.Kind {
	case api.Int:
		b = appendNumber(b, v.Num)
	case api.Text:
		b = append(b, v.Text...)
		b = append(b, textEnd)
	}
	return b
}

func appendNumber(b []byte, n int64) []byte {
	u := uint64(n) + shift
	for i := range numberBytes {
		b = append(b, byte(u>>(8*(numberBytes-1-i))))
	}
	return b
}

// Read is the list that bytes are. ErrForm.
func Read(s string) (_ []api.Value, _ error) {
	var l []api.Value
	for len(s) > 0 {
		v, n := readValue(s)
		if n == 0 {
			return nil, api.ErrForm
		}
		l = append(l, v)
		s = s[n:]
	}
	return l, nil
}

// readValue is the value with which s, which is not empty, begins, and in how many bytes it is written (0: none is).
func readValue(s string) (api.Value, int) {
	switch s[0] {
	case api.Null + 1:
		return api.Value{}, 1
	case api.Int + 1:
		return readNumber(s)
	case api.Text + 1:
		return readText(s)
	}
	return api.Value{}, 0
}

func readNumber(s string) (api.Value, int) {
	if len(s) < 1+numberBytes {
		return api.Value{}, 0
	}
	var u uint64
	for i := range numberBytes {
		u = u<<8 | uint64(s[1+i])
	}
	return api.Value{Kind: api.Int, Num: int64(u - shift)}, 1 + numberBytes
}

// readText looks for the text's end no further than the longest text reaches: Key writes none that is longer.
func readText(s string) (api.Value, int) {
	within := s[1:min(len(s), 1+api.MaxLetter+1)]
	n := letters(within)
	if n == len(within) {
		return api.Value{}, 0
	}
	// A copy, as an answer shares no memory with what was handed in.
	text := string([]byte(within[:n]))
	return api.Value{Kind: api.Text, Text: text}, 1 + n + 1
}
