package lex

import (
	"errors"
	"fmt"
	"slices"
	"strings"
	"testing"

	"concordance/api"
	"concordance/plain"
)

// show writes tokens.
func show(l []Token) string {
	var b strings.Builder
	for _, k := range l {
		fmt.Fprintf(&b, "{%d %q %d}", k.Kind, k.Text, k.At)
	}
	return b.String()
}

// splits fails, unless a text has just these tokens, and an End behind them.
func splits(t *testing.T, s string, want ...Token) {
	t.Helper()
	want = append(slices.Clone(want), Token{End, "", len(s)})
	if l, err := Split(s); err != nil || !slices.Equal(l, want) {
		t.Errorf("Split(%.120q) = %.300s, %v, want %.300s", s, show(l), err, show(want))
	}
}

// fails fails, unless a text is told to be wrong there, by an At, and no token comes with it.
func fails(t *testing.T, s string, want api.Errno, place int) {
	t.Helper()
	l, err := Split(s)
	var a *api.At
	if len(l) != 0 || !errors.As(err, &a) || *a != (api.At{Err: want, Place: place}) {
		t.Errorf("Split(%.120q) = %.300s, %v (%v), want error %d at %d", s, show(l), err, a, want, place)
	}
	if e, at := plain.Place(err); e != want || at != place {
		t.Errorf("Split(%.120q): error %d at %d, want %d at %d", s, e, at, want, place)
	}
}

// of are tokens of one kind, each as long as it says, with one blank between them.
func of(kind int, texts ...string) []Token {
	var l []Token
	at := 0
	for _, s := range texts {
		l = append(l, Token{kind, s, at})
		at += len(s) + 1
	}
	return l
}

// TestKinds: 9.1: the kinds are numbered from 1 on.
func TestKinds(t *testing.T) {
	if got := [...]int{Name, Number, String, Mark, End}; got != [...]int{1, 2, 3, 4, 5} {
		t.Errorf("%v", got)
	}
}

// TestStatement: 9.1: the tokens of whole statements.
func TestStatement(t *testing.T) {
	splits(t, "select * from t where a<>'it''s' and T.b >= 12;",
		Token{Name, "select", 0}, Token{Mark, "*", 7}, Token{Name, "from", 9}, Token{Name, "t", 14}, Token{Name, "where", 16},
		Token{Name, "a", 22}, Token{Mark, "<>", 23}, Token{String, "it's", 25}, Token{Name, "and", 33},
		Token{Name, "t", 37}, Token{Mark, ".", 38}, Token{Name, "b", 39}, Token{Mark, ">=", 41}, Token{Number, "12", 44}, Token{Mark, ";", 46})
	splits(t, "insert into t values(-3,null)",
		Token{Name, "insert", 0}, Token{Name, "into", 7}, Token{Name, "t", 12}, Token{Name, "values", 14}, Token{Mark, "(", 20},
		Token{Mark, "-", 21}, Token{Number, "3", 22}, Token{Mark, ",", 23}, Token{Name, "null", 24}, Token{Mark, ")", 28})
}

// TestNames: 9.1: runs of letters, _ and digits that begin with no digit, in small letters.
func TestNames(t *testing.T) {
	for _, s := range []string{"a", "z", "_", "__", "_1", "a1", "a_b", "select", "abcdefghijklmnopqrstuvwxyz_0123456789", strings.Repeat("x", api.MaxName+1)} {
		splits(t, s, Token{Name, s, 0})
		splits(t, strings.ToUpper(s), Token{Name, s, 0})
		splits(t, " "+s+" ", Token{Name, s, 1})
	}
	splits(t, "Ab AB aB", of(Name, "ab", "ab", "ab")...)
	splits(t, "_A9z-B", Token{Name, "_a9z", 0}, Token{Mark, "-", 4}, Token{Name, "b", 5})
	splits(t, "a'B'C", Token{Name, "a", 0}, Token{String, "B", 1}, Token{Name, "c", 4})
}

// TestNumbers: 9.1: runs of digits, as they stand, of at most nineteen.
func TestNumbers(t *testing.T) {
	for _, s := range []string{"0", "7", "9", "00", "007", "0123456789", "1234567890123456789", "9999999999999999999", "0000000000000000000"} {
		splits(t, s, Token{Number, s, 0})
		splits(t, "\n"+s+"\n", Token{Number, s, 1})
	}
	splits(t, "1 2 33", of(Number, "1", "2", "33")...)
	splits(t, "-1", Token{Mark, "-", 0}, Token{Number, "1", 1})
	splits(t, "1.50", Token{Number, "1", 0}, Token{Mark, ".", 1}, Token{Number, "50", 2})
}

// TestNumberAheadOfName: 9.1: a Name begins with no digit: what stands behind digits is another token.
func TestNumberAheadOfName(t *testing.T) {
	splits(t, "12ab", Token{Number, "12", 0}, Token{Name, "ab", 2})
	splits(t, "1_2", Token{Number, "1", 0}, Token{Name, "_2", 1})
	splits(t, "0x1F", Token{Number, "0", 0}, Token{Name, "x1f", 1})
	splits(t, "1234567890123456789a0", Token{Number, "1234567890123456789", 0}, Token{Name, "a0", 19})
	splits(t, "a12345678901234567890123", Token{Name, "a12345678901234567890123", 0})
}

// TestLongNumbers: 9.1: of more than nineteen digits, ErrLimit, an At at it, whatever they come to.
func TestLongNumbers(t *testing.T) {
	for _, s := range []string{"12345678901234567890", "00000000000000000000", "00000000000000000001", strings.Repeat("9", 21), strings.Repeat("1", 1<<20)} {
		fails(t, s, api.ErrLimit, 0)
		fails(t, "a = "+s+" b", api.ErrLimit, 4)
		fails(t, "'x'"+s, api.ErrLimit, 3)
		fails(t, "-"+s+"a", api.ErrLimit, 1)
		splits(t, "'"+s+"'", Token{String, s, 0})
		splits(t, "a"+s, Token{Name, "a" + s, 0})
	}
	splits(t, "1234567890 1234567890", of(Number, "1234567890", "1234567890")...)
}

// TestStrings: 9.1: what stands between two ', byte by byte, two ' for one.
func TestStrings(t *testing.T) {
	for s, want := range map[string]string{
		`''`:                    ``,
		`''''`:                  `'`,
		`''''''`:                `''`,
		`'a'`:                   `a`,
		`'Cat And DOG'`:         `Cat And DOG`,
		`'it''s'`:               `it's`,
		`'''a'`:                 `'a`,
		`'a'''`:                 `a'`,
		`'a''''b'`:              `a''b`,
		`'''a''b'''`:            `'a'b'`,
		`' '`:                   ` `,
		`' '' '`:                ` ' `,
		"' \t\r\n'":             " \t\r\n",
		`'<> 12 (a);'`:          `<> 12 (a);`,
		`'"\n\"'`:               `"\n\"`,
		"'\x00\xff\xc3\xa9!@#'": "\x00\xff\xc3\xa9!@#",
	} {
		splits(t, s, Token{String, want, 0})
		splits(t, "\t"+s+"\r", Token{String, want, 1})
		splits(t, "a"+s+"b", Token{Name, "a", 0}, Token{String, want, 1}, Token{Name, "b", len(s) + 1})
	}
}

// TestStringsSideBySide: 9.1: two ' that touch are one in a String; with a blank between them one String ends, and another one begins.
func TestStringsSideBySide(t *testing.T) {
	splits(t, `'a''b'`, Token{String, "a'b", 0})
	splits(t, `'a' 'b'`, Token{String, "a", 0}, Token{String, "b", 4})
	splits(t, `'' ''`, Token{String, "", 0}, Token{String, "", 3})
	splits(t, `'''' ''''`, Token{String, "'", 0}, Token{String, "'", 5})
	splits(t, `'a','b'`, Token{String, "a", 0}, Token{Mark, ",", 3}, Token{String, "b", 4})
}

// TestStringsThatDoNotEnd: 9.1: ErrForm, an At where it begins.
func TestStringsThatDoNotEnd(t *testing.T) {
	for _, s := range []string{`'`, `'a`, `'''`, `'a''`, `'''''`, `'a''b`, `' `, "'\n", `'a"`, `'12345678901234567890`, "'!", `'a''b''`} {
		fails(t, s, api.ErrForm, 0)
		fails(t, "a <= "+s, api.ErrForm, 5)
		fails(t, "'x' "+s, api.ErrForm, 4)
	}
	fails(t, `''a'`, api.ErrForm, 3)
	fails(t, `'a'b'c`, api.ErrForm, 4)
}

// TestMarks: 9.1: each mark, alone and among others.
func TestMarks(t *testing.T) {
	all := []string{"<>", "<=", ">=", "<", ">", "=", "+", "-", "*", "(", ")", ",", ".", ";"}
	for _, s := range all {
		splits(t, s, Token{Mark, s, 0})
		splits(t, "a"+s+"1", Token{Name, "a", 0}, Token{Mark, s, 1}, Token{Number, "1", len(s) + 1})
	}
	splits(t, strings.Join(all, " "), of(Mark, all...)...)
}

// TestLongestMark: 9.1: of marks of which one begins with the other, the longest that stands there; a blank ends a mark.
func TestLongestMark(t *testing.T) {
	for s, want := range map[string]string{
		"<>": "<>", "<=": "<=", ">=": ">=", "><": "> <", "=<": "= <", "=>": "= >", "==": "= =", "<<": "< <", ">>": "> >",
		"<>=": "<> =", "<=>": "<= >", "<>>": "<> >", "<<>": "< <>", "<<=": "< <=", ">>=": "> >=", "<==": "<= =", "><>": "> <>", "=<>": "= <>", ">=<": ">= <",
		"<><=>=": "<> <= >=", "<-": "< -", ">(": "> (", "*)": "* )", "--": "- -", "..": ". .", ";;": "; ;", "(*)": "( * )",
	} {
		var l []Token
		at := 0
		for m := range strings.FieldsSeq(want) {
			l = append(l, Token{Mark, m, at})
			at += len(m)
		}
		splits(t, s, l...)
	}
	for _, s := range []string{"< >", "< =", "> =", "<\t>", "<\n=", ">\r="} {
		splits(t, s, Token{Mark, s[:1], 0}, Token{Mark, s[2:], 2})
	}
	splits(t, "a<>b<=c>=d",
		Token{Name, "a", 0}, Token{Mark, "<>", 1}, Token{Name, "b", 3}, Token{Mark, "<=", 4}, Token{Name, "c", 6}, Token{Mark, ">=", 7}, Token{Name, "d", 9})
}

// TestEnd: 9.1: a text of nothing has an End alone; it stands at the end, behind all blanks.
func TestEnd(t *testing.T) {
	for _, s := range []string{"", " ", "\t", "\r", "\n", " \t\r\n", strings.Repeat(" ", 1<<20)} {
		splits(t, s)
		splits(t, "a"+s, Token{Name, "a", 0})
		splits(t, s+"a", Token{Name, "a", len(s)})
		splits(t, s+"''"+s, Token{String, "", len(s)})
	}
}

// TestBlanks: 9.1: blanks, tabs, CR and LF part tokens, and are nothing.
func TestBlanks(t *testing.T) {
	for _, s := range []string{" ", "\t", "\r", "\n", "\r\n", " \n\t\r "} {
		n := len(s)
		splits(t, s+"a"+s+"b"+s+"1"+s+"2"+s, Token{Name, "a", n}, Token{Name, "b", 2*n + 1}, Token{Number, "1", 3*n + 2}, Token{Number, "2", 4*n + 3})
	}
}

// TestEachByte: 9.1, P5: what each byte is, alone and beside others: texts are bytes, and those above 127 are no letters.
func TestEachByte(t *testing.T) {
	for c := range 256 {
		s := string([]byte{byte(c)})
		switch {
		case strings.Contains(" \t\r\n", s):
			splits(t, s)
		case strings.Contains("ABCDEFGHIJKLMNOPQRSTUVWXYZabcdefghijklmnopqrstuvwxyz_", s):
			splits(t, s, Token{Name, strings.ToLower(s), 0})
			splits(t, "a"+s, Token{Name, "a" + strings.ToLower(s), 0})
			splits(t, "1"+s, Token{Number, "1", 0}, Token{Name, strings.ToLower(s), 1})
		case strings.Contains("0123456789", s):
			splits(t, s, Token{Number, s, 0})
			splits(t, "a"+s, Token{Name, "a" + s, 0})
		case strings.Contains("<>=+-*(),.;", s):
			splits(t, s, Token{Mark, s, 0})
			splits(t, "a"+s, Token{Name, "a", 0}, Token{Mark, s, 1})
		default: // one ' among them: a String that does not end
			fails(t, s, api.ErrForm, 0)
			fails(t, "a"+s, api.ErrForm, 1)
			fails(t, "1"+s+" b", api.ErrForm, 1)
			fails(t, "< "+s, api.ErrForm, 2)
		}
		if s != "'" {
			splits(t, "'"+s+"'", Token{String, s, 0})
		}
	}
}

// TestNoToken: 9.1: ErrForm, an At where no token begins: of several at the first one.
func TestNoToken(t *testing.T) {
	fails(t, "!", api.ErrForm, 0)
	fails(t, "a != b", api.ErrForm, 2)
	fails(t, "a ! b ! c", api.ErrForm, 2)
	fails(t, `a = "b"`, api.ErrForm, 4)
	fails(t, "'it''s' / 2", api.ErrForm, 8)
	fails(t, "  \n [a]", api.ErrForm, 4)
	fails(t, "a\x00", api.ErrForm, 1)
	fails(t, "a\vb", api.ErrForm, 1)
	fails(t, "a\fb", api.ErrForm, 1)
	fails(t, "caf\xc3\xa9", api.ErrForm, 3)
	fails(t, "a \xc2\xa0b", api.ErrForm, 2)      // a blank that does not break
	fails(t, "a \xe2\x89\xa4 b", api.ErrForm, 2) // a sign for <=
	fails(t, "a \xd9\xa3", api.ErrForm, 2)       // a digit of another script
	fails(t, "a\xe2\x84\xaa", api.ErrForm, 1)    // a sign whose small letter is k
	fails(t, "! '", api.ErrForm, 0)
	fails(t, "' !", api.ErrForm, 0)
}

// TestWhichErrorIsTold: P3: of several tokens the first one's.
func TestWhichErrorIsTold(t *testing.T) {
	const long = "12345678901234567890"
	fails(t, "! "+long, api.ErrForm, 0)
	fails(t, long+" !", api.ErrLimit, 0)
	fails(t, long+"!", api.ErrLimit, 0)
	fails(t, long+" '", api.ErrLimit, 0)
	fails(t, "' "+long, api.ErrForm, 0)
	fails(t, "a "+long+" "+long, api.ErrLimit, 2)
	fails(t, "a ! "+strings.Repeat("a ", 2*api.MaxWords), api.ErrForm, 2)
	fails(t, "a "+long+strings.Repeat(" a", 2*api.MaxWords), api.ErrLimit, 2)
}

// most are as many tokens as there may be, all the same, so far from each other.
func most(kind int, text string, far int) []Token {
	var l []Token
	for i := range api.MaxWords {
		l = append(l, Token{kind, text, far * i})
	}
	return l
}

// TestManyTokens: 9.1: as many tokens as there may be, of each kind, with blanks between them or not, and an End behind them, which is none of them; one more is ErrLimit, an At at it.
func TestManyTokens(t *testing.T) {
	for _, c := range []struct {
		s, text string
		kind    int
	}{
		{"a ", "a", Name}, {"A\t", "a", Name}, {"1\n", "1", Number}, {"'x' ", "x", String}, {"''\r\n", "", String}, {"'''' ", "'", String},
		{"(", "(", Mark}, {";", ";", Mark}, {"<>", "<>", Mark}, {">= ", ">=", Mark}, {"<  ", "<", Mark},
	} {
		s := strings.Repeat(c.s, api.MaxWords)
		splits(t, s, most(c.kind, c.text, len(c.s))...)
		splits(t, s+" \n", most(c.kind, c.text, len(c.s))...)
		for _, more := range []string{"a", "1", "''", "'x y'", "(", ")", ";", "<>", "12345678901234567890", "a b", "a !", "a '", "( 12345678901234567890"} {
			fails(t, s+" "+more, api.ErrLimit, len(s)+1)
		}
		fails(t, s+c.s, api.ErrLimit, len(s))
		fails(t, s+s, api.ErrLimit, len(s))
	}
}

// TestNoTokenBehindMany: 9.1: of what is no token behind as many tokens as there may be ErrForm, and not that it is one more.
func TestNoTokenBehindMany(t *testing.T) {
	s := strings.Repeat("a ", api.MaxWords)
	for _, more := range []string{"!", "\x00", "\xff", "'", "'a", "'a''", "! a", "!!", "' a ( 1"} {
		fails(t, s+more, api.ErrForm, len(s))
		fails(t, s+" \n"+more, api.ErrForm, len(s)+2)
		fails(t, s[2:]+more, api.ErrForm, len(s)-2)
	}
}
