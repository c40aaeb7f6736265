package desk

import (
	"regexp"
	"strings"
	"testing"
	"unsafe"

	"concordance/api"
)

// scrawl writes over a text's memory. (A text of one byte lies where nobody may write: it stays.)
func scrawl(s string) {
	if len(s) < 2 {
		return
	}
	for i := range len(s) {
		unsafe.Slice(unsafe.StringData(s), len(s))[i] = '!'
	}
}

// remembered is a text of which each kind of answer says something again.
const remembered = `create table first (numb int, textual text words)
create table other (numb int)
insert into first values (11, 'some cats'), (22, 'it''s a dog')
select * from first
select 'a literal', 12345 from first
wordsof wordsalone and more
print select something from anything where textual = 'a literal'
tables
lookup first textual cats
nonsense of some kind
state
help
cut 0 10
drop table first
open
select textual from first where textual match 'cats'`

// TestNothingIsKept: P4: a text that is handed in is not written into, and what comes out shares no memory with it.
func TestNothingIsKept(t *testing.T) {
	for _, s := range append(strings.Split(remembered, "\n"), remembered, remembered+"\n", strings.Repeat(remembered+"\n", 25), "") {
		want := strings.Clone(Session(s))
		text := string([]byte(s))
		got := Session(text)
		if text != s {
			t.Errorf("%.100s: it was written into", s)
		}
		scrawl(text)
		if got != want {
			t.Errorf("%.100s: %.300q, want %.300q", s, got, want)
		}
	}
}

// TestAnswersAreFresh: P4: no two answers share memory, nor does what a session says hang on what was done to another one's answer.
func TestAnswersAreFresh(t *testing.T) {
	for _, s := range append(strings.Split(remembered, "\n"), remembered, strings.Repeat("x", api.MaxText+1), "", "\n") {
		want := strings.Clone(Session(s))
		a, b := Session(s), Session(s)
		scrawl(a)
		if b != want || Session(s) != want {
			t.Errorf("%.100s: %.300q, want %.300q", s, b, want)
		}
	}
}

// shape is what a line may be answered, whatever it is.
var shape = regexp.MustCompile(`(?s)^(ok|error ([1-7]|9|1[2-4])|done \d+|rows .*|cut|open|words( .*)?|found .*|tables( .*)?|(true|false) (true|false) \d+|cut help lookup open print state tables wordsof|(begin|commit|rollback|create|drop|insert|delete|update|select).*)$`)

// anyText is a text of many kinds of bytes, among them whole words.
func (d *die) anyText() string {
	s := ""
	for range d.below(60) {
		switch d.below(5) {
		case 0:
			s += string([]byte{byte(d.below(256))})
		case 1:
			s += d.pick("\n", "\n", " ", " ", "\t", "\r", "'", "\"", "(", ")", ",", ";", "*", "=", "-", "0", "9223372036854775808", "\u00e4")
		default:
			s += d.pick("cut", "help", "lookup", "open", "print", "state", "tables", "wordsof", "select", "*", "from", "t", "a", "b", "create table t (a int, b text words)\n", "insert into t values (1, 'cat')\n", "begin\n", "commit\n", "cut 0 5\n", "where", "match", "'cat'", "cat") + " "
		}
	}
	return s
}

// TestAnyText: P1: no text makes it panic; each line is answered by a line, of a known shape, and always by the same one.
func TestAnyText(t *testing.T) {
	d := die(9)
	for range 4000 {
		s := d.anyText()
		got := Session(s)
		l := strings.Split(got, "\n")
		if n := strings.Count(strings.TrimSuffix(s, "\n"), "\n") + 1; len(l) != n+1 || l[n] != "" {
			t.Fatalf("%q: %q: not %d lines", s, got, n)
		}
		for _, line := range l[:len(l)-1] {
			if !shape.MatchString(line) {
				t.Fatalf("%q: %q", s, line)
			}
		}
		if again := Session(s); again != got {
			t.Fatalf("%q: %q, then %q", s, got, again)
		}
	}
}

// TestLongTexts: P1, Limits: as many lines as a text may have, and as much work as they may ask for.
func TestLongTexts(t *testing.T) {
	full := "create table t (a int)\ncreate table u (b int)\n"
	for _, name := range []string{"t", "u", "t", "u"} {
		full += "insert into " + name + " values " + strings.TrimSuffix(strings.Repeat("(1),", 48), ",") + "\n"
	}
	for _, c := range []struct{ ahead, line, want string }{
		{"", "open\n", "open"},
		{"", "begin\ncut 0 0\ncommit\nopen\n", "open"},
		{"create table t (a int)\n", "delete from t\n", "done 0"},
		{full, "select 1 from t join u on 0\n", "rows "},
		{full, "select count(*) from t join u on a=b\n", "rows 9216"},
		{full, "update t set a=a+1\n", "done 96"},
	} {
		text := c.ahead + strings.Repeat(c.line, (api.MaxText-len(c.ahead))/len(c.line))
		got := Session(text)
		if last(got) != c.want || strings.Count(got, "\n") != strings.Count(text, "\n") {
			t.Errorf("%s: %q, %d lines, want %q, %d lines", c.line, last(got), strings.Count(got, "\n"), c.want, strings.Count(text, "\n"))
		}
	}
}
