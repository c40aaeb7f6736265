package desk

import (
	"fmt"
	"strings"
	"testing"

	"concordance/api"
)

// TestDocument: example 17 of the document.
func TestDocument(t *testing.T) {
	gives(t, "create table t (a int)\ninsert into t values (3)\nselect * from t", "done 0\ndone 1\nrows 3\n")
}

// TestMostText: 17.1: of a text of more than MaxText bytes ErrLimit is told, whatever it says; of just so many it is not.
func TestMostText(t *testing.T) {
	for one, want := range map[string]string{
		"x":      "error 3\n",
		" ":      "ok\n",
		"\n":     strings.Repeat("ok\n", api.MaxText),
		"\xff":   "error 3\n",
		"\x00":   "error 3\n",
		"help\n": strings.Repeat("cut help lookup open print state tables wordsof\n", api.MaxText/5),
		"state ": "error 3\n",
		"\u00e4": "error 3\n",
	} {
		text := strings.Repeat(one, api.MaxText/len(one)) + strings.Repeat(" ", api.MaxText%len(one))
		if len(text) != api.MaxText {
			t.Fatalf("%q: %d bytes", one, len(text))
		}
		gives(t, text, want)
		for _, more := range []string{" ", "\n", "x", one, text, strings.Repeat(text, 50)} {
			gives(t, text+more, "error 4\n")
			gives(t, more+text, "error 4\n")
		}
	}
	// The line feed at the end is left out of the lines, but it is a byte of the text.
	gives(t, strings.Repeat("x", api.MaxText-1)+"\n", "error 3\n")
	gives(t, strings.Repeat("x", api.MaxText)+"\n", "error 4\n")
}

// TestTextHasBytes: P5: bytes are counted, not letters.
func TestTextHasBytes(t *testing.T) {
	gives(t, strings.Repeat("\u20ac", api.MaxText/3), "error 3\n")
	gives(t, strings.Repeat("\u20ac", api.MaxText/3+1), "error 4\n")
	gives(t, "wordsof "+strings.Repeat("\u20ac", 4), "words "+strings.Repeat("\u20ac", 4)+"\n")
}

// TestLines: 17.1: a text is cut at line feeds; one at its end is left out; the empty text is one line.
func TestLines(t *testing.T) {
	for text, want := range map[string]string{
		"":                     "ok",
		"\n":                   "ok",
		"\n\n":                 "ok ok",
		"\n\n\n":               "ok ok ok",
		" ":                    "ok",
		" \n":                  "ok",
		" \n ":                 "ok ok",
		"\n ":                  "ok ok",
		"open":                 "open",
		"open\n":               "open",
		"open\n\n":             "open ok",
		"open\n\n\n":           "open ok ok",
		"\nopen":               "ok open",
		"\nopen\n":             "ok open",
		"\n\nopen\n":           "ok ok open",
		"open\nwordsof":        "open words",
		"open\nwordsof\n":      "open words",
		"open\n\nwordsof\n":    "open ok words",
		"open\n \nwordsof\n ":  "open ok words ok",
		"tables\nopen\nopen\n": "tables open open",
	} {
		gives(t, text, strings.ReplaceAll(want, " ", "\n")+"\n")
	}
}

// TestLinesByTheWay: 17.1: lines may be left ahead of their end.
func TestLinesByTheWay(t *testing.T) {
	for _, text := range []string{"", "\n", "a", "a\n", "a\nb", "a\n\nb\n", "\n\n\n"} {
		all := strings.Split(strings.TrimSuffix(text, "\n"), "\n")
		for n := range len(all) + 2 {
			var got []string
			for line := range lines(text) {
				if len(got) == n {
					break
				}
				got = append(got, line)
			}
			if want := all[:min(n, len(all))]; fmt.Sprintf("%q", got) != fmt.Sprintf("%q", want) {
				t.Errorf("lines(%q), %d of them: %q, want %q", text, n, got, want)
			}
		}
	}
}

// TestOtherEnds: 17.1: nothing but a line feed ends a line.
func TestOtherEnds(t *testing.T) {
	for _, end := range []string{"\r", "\v", "\f", "\x00", "\x1e", "\u0085", "\u2028", "\u2029", "\\n", ";", " "} {
		if n := strings.Count(Session("open"+end+"open"), "\n"); n != 1 {
			t.Errorf("open%qopen has %d lines", end, n)
		}
		if n := strings.Count(Session("open"+end+"\nopen"), "\n"); n != 2 {
			t.Errorf("open%q, open has %d lines", end, n)
		}
	}
}

// TestBlanks: 17.1: words stand between blanks, however many: a line of blanks alone has none.
func TestBlanks(t *testing.T) {
	for n := range 6 {
		b := strings.Repeat(" ", n)
		answers(t, []pair{
			{b, "ok"},
			{b + "help", "cut help lookup open print state tables wordsof"},
			{b + "open" + b, "open"},
			{"state" + b, "false false 0"},
			{b + " cut " + b + "-1" + b + " 0" + b, "cut"},
			{"tables" + b, "tables"},
			{b + "wordsof " + b + "cats" + b + " dogs" + b, "words cat dog"},
			{b + "print " + b + "begin" + b, "begin"},
			{b + "create " + b + "table t (a text words)" + b, "done 0"},
			{b + "insert into t values ('cat')" + b, "done 1"},
			{b + "lookup " + b + "t " + b + "a " + b + "cat" + b, "found 1 1"},
			{b + "tables" + b, "tables t"},
			{b + "state" + b + " " + b, "false false 2"},
			{b + "select * from t" + b, "rows 'cat'"},
			{b + "nonsense" + b, "error 3"},
			{b, "ok"},
		})
	}
}

// TestNoBlanks: 17.1: a blank is a blank alone (9.1 tells tabs, CR and LF from it): what else is white is part of a word. So such a line has a word, is no line of the table, and is a statement.
func TestNoBlanks(t *testing.T) {
	for _, w := range []string{"\t", "\r", "\v", "\f", "\x00", "\x1f", "\x85", "\xa0", "\u0085", "\u00a0", "\u2003", "\u3000", "\ufeff"} {
		for _, line := range []string{w, " " + w, w + " ", " " + w + " ", w + w, w + "open", "open" + w, "open" + w + " ", "cut 1" + w + "1", "cut" + w + "1 1", "state" + w + "state", w + " help", "help " + w, "tables" + w + " ", "print" + w + "begin", "wordsof" + w + "a", "lookup" + w + "t a a"} {
			answers(t, []pair{{line, "error 3"}, {"state", "false false 0"}})
		}
	}
}

// TestStatementsHaveOtherBlanks: 17.1, 9.1: in a statement tabs and CR are nothing.
func TestStatementsHaveOtherBlanks(t *testing.T) {
	answers(t, []pair{
		{"\tcreate\ttable t (a\rtext\twords)\r", "done 0"},
		{"insert into t values\t('a\tcat')\r", "done 1"},
		{"select * from t\r", "rows 'a\tcat'"},
		{"\r \tselect\r*\tfrom\tt", "rows 'a\tcat'"},
		{"print \tselect\t'a\tb'\rfrom t\r", "select 'a\tb' from t"},
		{"wordsof a\tcats\r", "words a cat"},
		{"lookup t a a\tcat", "error 3"},
		{"lookup t a cat\r", "found 1 1"},
		{"lookup t a\t cat", "error 5"},
		{"lookup t\r a cat", "error 7"},
	})
}

// TestStatementsKeepBlanks: 17.1: a statement is its line, as it stands; what stands behind print, wordsof and lookup has one blank between words.
func TestStatementsKeepBlanks(t *testing.T) {
	answers(t, []pair{
		{"create table t (a text words)", "done 0"},
		{"insert into t values ('  a   cat  '), ('a cat')", "done 2"},
		{"select * from t", "rows '  a   cat  ', 'a cat'"},
		{"select * from t where a = 'a   cat'", "rows "},
		{"select * from t where a = 'a cat'", "rows 'a cat'"},
		{"  select   '   '   from   t  ", "rows '   ', '   '"},
		{"print   select  '  a   cat  '  from  t", "select ' a cat ' from t"},
		{"print select '   ' from t", "select ' ' from t"},
		{"lookup t a   \"a    cat\"  ", "found 1 1, 2 1"},
		{"wordsof   a    cat  ", "words a cat"},
	})
}

// TestFirstWords: 17.1: only a first word that is just so written is one of the table's; all else is a statement.
func TestFirstWords(t *testing.T) {
	for _, w := range strings.Fields("cut help lookup open print state tables wordsof") {
		for _, s := range []string{strings.ToUpper(w), strings.ToUpper(w[:1]) + w[1:], w + ";", w + "s", w[1:], w[:len(w)-1], "'" + w + "'", ";" + w, w + ",", "x " + w, "- " + w} {
			answers(t, []pair{{s, "error 3"}, {s + " 1 1", "error 3"}, {s + " t a b", "error 3"}})
		}
	}
	talk(t, `
		create table help (open int, state text words)  => done 0
		insert into help values (1, 'print tables')     => done 1
		select open, state from help                    => rows 1 'print tables'
		lookup help state tables                        => found 1 1
		tables                                          => tables help
	`)
}

// TestNumbers: 17.1, P5: which words are numbers.
func TestNumbers(t *testing.T) {
	for _, w := range strings.Fields(`0 1 9 10 19 90 100 1024 -1 -9 -10 -100 2147483647 2147483648 -2147483648 -2147483649 4294967296
		9223372036854775807 9223372036854775806 -9223372036854775808 -9223372036854775807`) {
		answers(t, []pair{{"cut " + w + " 0", "cut"}, {"cut 0 " + w, "cut"}, {"cut " + w + " " + w, "cut"}})
	}
	for _, w := range strings.Fields(`-0 +0 +1 +-1 -+1 -- - + --1 00 01 007 -01 -00 -007 1- 1+ 1- 0- 0.0 1.0 1. .1 1e3 0x1 0b1 0o1 1_0 _1 1, 1; '1' (1) a x NaN inf
		9223372036854775808 -9223372036854775809 18446744073709551615 18446744073709551616 -18446744073709551616 99999999999999999999 09223372036854775807
		1` + strings.Repeat("0", 400) + ` -1` + strings.Repeat("0", 400) + ` ` + strings.Repeat("0", 400) + "1 \u0661 \uff11 1\u0661 \u22121 \xff 1\x00 \x001") {
		talk(t, "cut "+w+" 0 => error 3\n cut 0 "+w+" => error 3\n cut "+w+" "+w+" => error 3\n"+`
			create table t (a int)    => done 0
			insert into t values (1)  => done 1
			state                     => false false 2
		`)
	}
}

// TestNumbersAreThose: 17.1: the numbers that are told are those that count.
func TestNumbersAreThose(t *testing.T) {
	for want, w := range map[int]string{0: "0", 7: "7", -7: "-7", 1234567890123: "1234567890123", 1<<63 - 1: "9223372036854775807", -1 << 63: "-9223372036854775808"} {
		if got := number(w); got != want {
			t.Errorf("number(%s) = %d", w, got)
		}
	}
}
