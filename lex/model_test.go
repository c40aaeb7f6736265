package lex

import (
	"errors"
	"fmt"
	"regexp"
	"slices"
	"strings"
	"testing"
	"unsafe"

	"concordance/api"
)

// die: numbers that look drawn, the same each time.
type die uint64

func (d *die) below(n int) int {
	*d = *d*6364136223846793005 + 1442695040888963407
	return int(uint64(*d>>33) % uint64(n))
}

// pick is one of these.
func (d *die) pick(l ...string) string { return l[d.below(len(l))] }

// token matches blanks, or a token of each kind: a String is pieces between two ' that touch one another.
var token = regexp.MustCompile(`^(?:([ \t\r\n]+)|([A-Za-z_][A-Za-z_0-9]*)|([0-9]+)|((?:'[^']*')+)|(<[=>]?|>=?|[-=+*(),.;]))`)

// model is what a text's tokens are told to be: by a pattern alone.
func model(s string) string {
	var l []Token
	for at := 0; at < len(s); {
		m := token.FindStringSubmatch(s[at:])
		// A ' right behind a String would begin its next piece: that one does not end.
		if m == nil || m[4] != "" && strings.HasPrefix(s[at+len(m[0]):], "'") {
			return fmt.Sprint("error ", int(api.ErrForm), " at ", at)
		}
		if m[1] == "" && (len(m[3]) > 19 || len(l) == 200) {
			return fmt.Sprint("error ", int(api.ErrLimit), " at ", at)
		}
		switch {
		case m[2] != "":
			l = append(l, Token{1, strings.ToLower(m[2]), at})
		case m[3] != "":
			l = append(l, Token{2, m[3], at})
		case m[4] != "":
			l = append(l, Token{3, strings.Join(strings.Split(m[4][1:len(m[4])-1], "''"), "'"), at})
		case m[5] != "":
			l = append(l, Token{4, m[5], at})
		}
		at += len(m[0])
	}
	return show(append(l, Token{5, "", len(s)}))
}

// answer is what Split tells of a text.
func answer(s string) string {
	l, err := Split(s)
	var a *api.At
	if errors.As(err, &a) && len(l) == 0 {
		return fmt.Sprint("error ", int(a.Err), " at ", a.Place)
	}
	return show(l)
}

// alike fails, unless Split tells of a text what the model tells.
func alike(t *testing.T, s string) {
	t.Helper()
	if got, want := answer(s), model(s); got != want {
		t.Fatalf("Split(%.300q) = %.600s, want %.600s", s, got, want)
	}
}

// TestModelOfShortTexts: 9.1: all texts of at most five of some bytes.
func TestModelOfShortTexts(t *testing.T) {
	const some = "' <>=a1(!"
	var all func(s string, more int)
	all = func(s string, more int) {
		alike(t, s)
		if more == 0 {
			return
		}
		for i := range len(some) {
			all(s+some[i:i+1], more-1)
		}
	}
	all("", 5)
}

// TestModelOfAnyBytes: 9.1, P1: whatever bytes there are, it ends, without a panic.
func TestModelOfAnyBytes(t *testing.T) {
	d := die(1)
	for range 100000 {
		b := make([]byte, d.below(20))
		for i := range b {
			if d.below(8) == 0 {
				b[i] = byte(d.below(256))
			} else {
				b[i] = "''<>= \taZ_09(),.;+-*"[d.below(20)]
			}
		}
		alike(t, string(b))
	}
}

// piece writes any token.
func (d *die) piece() string {
	switch d.below(5) {
	case 0:
		return d.pick("a", "B", "_", "select", "FROM", "a_1", "x9", "Jumping")
	case 1:
		return d.pick("0", "7", "42", "007", "1234567890123456789", "9223372036854775808")
	case 2:
		return d.pick("''", "'a'", "'it''s'", "''''", "'X y'", "'<>'", "'\n'", "'1'", "'\xff'", "'a'''")
	}
	return d.pick("<>", "<=", ">=", "<", ">", "=", "+", "-", "*", "(", ")", ",", ".", ";")
}

// blanks writes some, or none.
func (d *die) blanks() string {
	return d.pick("", "", " ", " ", "\t", "\r", "\n", "\r\n", "  ", " \n \t")
}

// TestModelOfTokens: 9.1: many tokens, with blanks between them or not, up to more than there may be, some with what is wrong among them.
func TestModelOfTokens(t *testing.T) {
	d := die(2)
	var told [3]int
	for range 5000 {
		var b strings.Builder
		n := d.below(260)
		for range n {
			b.WriteString(d.piece() + d.blanks())
			if d.below(400) == 0 {
				b.WriteString(d.pick("!", "'", "12345678901234567890", "\x00", "\"", "\xc3\xa9"))
			}
		}
		s := b.String()
		alike(t, s)
		switch _, err := Split(s); api.Tell(err) {
		case api.ErrForm:
			told[0]++
		case api.ErrLimit:
			told[1]++
		default:
			told[2]++
		}
	}
	if slices.Min(told[:]) < 200 {
		t.Errorf("too few texts of one sort: %v", told)
	}
}

// swap is a token with letters of the other size: those of a String are what it says.
func (d *die) swap(s string) string {
	if s[0] == '\'' {
		return s
	}
	b := []byte(s)
	for i, c := range b {
		if (c|32) >= 'a' && (c|32) <= 'z' && d.below(2) == 0 {
			b[i] = c ^ 32
		}
	}
	return string(b)
}

// said are tokens without their places.
func said(t *testing.T, s string) []Token {
	t.Helper()
	l, err := Split(s)
	if err != nil {
		t.Fatalf("Split(%q): %v", s, err)
	}
	for i := range l {
		l[i].At = 0
	}
	return l
}

// TestOtherBlanksAndLetters: 9.1: with other blanks between tokens, and letters of the other size, they are the same tokens.
func TestOtherBlanksAndLetters(t *testing.T) {
	d := die(3)
	for range 5000 {
		var one, other strings.Builder
		for range d.below(api.MaxWords + 1) {
			p := d.piece()
			one.WriteString(p + " ")
			other.WriteString(d.blanks() + d.swap(p) + d.pick(" ", "\t", "\r", "\n"))
		}
		a, b := said(t, one.String()), said(t, other.String())
		if !slices.Equal(a, b) {
			t.Fatalf("%q: %s, %q: %s", one.String(), show(a), other.String(), show(b))
		}
	}
}

// TestPlaces: 9.1: tokens stand one behind the other, each where its bytes begin, and only blanks between them.
func TestPlaces(t *testing.T) {
	d := die(4)
	for range 2000 {
		var b strings.Builder
		var want []int
		for range d.below(api.MaxWords + 1) {
			b.WriteString(d.blanks())
			want = append(want, b.Len())
			b.WriteString(d.piece() + " ")
		}
		want = append(want, b.Len())
		l, err := Split(b.String())
		var got []int
		for _, k := range l {
			got = append(got, k.At)
		}
		if err != nil || !slices.Equal(got, want) {
			t.Fatalf("Split(%q): %v, %v, want %v", b.String(), got, err, want)
		}
	}
}

// TestLong: P1, Limits: long tokens of each kind, and many ' in one String.
func TestLong(t *testing.T) {
	const many = 1 << 22
	splits(t, strings.Repeat("Ab", many), Token{Name, strings.Repeat("ab", many), 0})
	splits(t, "'"+strings.Repeat("Ab", many)+"'", Token{String, strings.Repeat("Ab", many), 0})
	splits(t, "'"+strings.Repeat("''", many)+"'", Token{String, strings.Repeat("'", many), 0})
	fails(t, strings.Repeat("''", many)+"'", api.ErrForm, 0)
	fails(t, strings.Repeat("1", many), api.ErrLimit, 0)
	fails(t, strings.Repeat("(", many), api.ErrLimit, api.MaxWords)
	fails(t, strings.Repeat("' ", many)+"'", api.ErrLimit, 800)
	fails(t, strings.Repeat("\n", many)+"!", api.ErrForm, many)
}

// TestKeepsNothing: P4: no memory of a text that is handed in is kept, and it is not written into.
func TestKeepsNothing(t *testing.T) {
	const text = "Select small, 1234, 'a text', 'it''s', '' from T<>(x >= 1)"
	want := model(text)
	b := []byte(text)
	l, err := Split(unsafe.String(&b[0], len(b)))
	if err != nil || string(b) != text {
		t.Fatalf("%v, %q", err, b)
	}
	for i := range b {
		b[i] = '!'
	}
	if got := show(l); got != want {
		t.Errorf("%s, want %s", got, want)
	}
}

// TestAnswersAreFresh: P4: what comes out is the caller's, with what stands behind its length; what a text is told hangs on the text alone.
func TestAnswersAreFresh(t *testing.T) {
	const text = "select a from t where b = 'x' and c < 12"
	want := model(text)
	l, _ := Split(text)
	m, _ := Split(text)
	clear(l[:cap(l)])
	if got := show(m); got != want {
		t.Errorf("two answers share memory: %s, want %s", got, want)
	}
	if _, err := Split("!"); err == nil {
		t.Error("no error")
	}
	if got := answer(text); got != want {
		t.Errorf("asked again: %s, want %s", got, want)
	}
	_, e := Split("a !")
	_, f := Split("ab !")
	if e == nil || f == nil {
		t.Fatal("no error")
	}
	e.(*api.At).Place = 99
	fails(t, "a !", api.ErrForm, 2)
	if f.(*api.At).Place != 3 {
		t.Errorf("two errors share memory: %v", f)
	}
}
