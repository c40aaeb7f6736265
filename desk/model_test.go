package desk

import (
	"fmt"
	"math/big"
	"regexp"
	"strings"
	"testing"

	"concordance/api"
	"concordance/base"
	"concordance/disk"
	"concordance/match"
	"concordance/parse"
	"concordance/word"
)

// die: numbers that look drawn, the same each time.
type die uint64

func (d *die) below(n int) int {
	*d = *d*6364136223846793005 + 1442695040888963407
	return int(uint64(*d>>33) % uint64(n))
}

func (d *die) pick(l ...string) string { return l[d.below(len(l))] }

// condition is one that may hold, may not, and may be an error.
func (d *die) condition() string {
	return d.pick("a = 1", "a > 1", "a is null", "b match 'cat'", "b match 'cat OR dog'", "b match '('", "a match 'cat'", "b", "a + 1 = c", "c < 5 and b match 'dog'", "x = 1", "1", "not a = 2")
}

// statement is any, often wrong.
func (d *die) statement() string {
	t := d.pick("t", "t", "t", "u", "v")
	switch d.below(12) {
	case 0:
		return d.pick("create table t (a int, b text words, c int)", "create table u (a int not null, c text)", "create table v (x int)", "create table w (a int, a int)", "drop table "+t)
	case 1, 2, 3:
		s := "insert into " + t + " values "
		for i := range 1 + d.below(3) {
			s += strings.Repeat(", ", min(i, 1)) + "(" + d.pick("1", "2", "- 3", "null", "'x'") + ", " + d.pick("'cat'", "'dogs  and cats'", "'it''s'", "null", "7") + d.pick(", 1", ", null", ", 5", "") + ")"
		}
		return s
	case 4:
		return "delete from " + t + d.pick("", " where "+d.condition())
	case 5:
		return "update " + t + " set " + d.pick("a = a + 1", "b = 'owls'", "c = null", "a = null", "a = 1, a = 2", "c = a, a = c") + d.pick("", " where "+d.condition())
	case 6:
		return "create index on " + t + " (" + d.pick("a", "b", "c", "x") + ")"
	case 7, 8:
		return d.pick("begin", "commit", "rollback")
	}
	return "select " + d.pick("*", "a", "b, a", "count(*)", "max(c), min(b)", "'it''s', null") + " from " + t + d.pick("", " join u on t.a = u.a") + d.pick("", " where "+d.condition()) + d.pick("", " order by a", " order by rank desc", " limit 1", " limit 0")
}

// line is any.
func (d *die) line() string {
	switch d.below(12) {
	case 0:
		return d.pick("cut", "cut") + " " + d.number() + " " + d.number()
	case 1:
		return d.pick("open", "tables", "state", "help", "", "nonsense", "OPEN", "tables;")
	case 2:
		return "lookup " + d.pick("t", "t", "t", "u", "v") + " " + d.pick("b", "b", "b", "a", "c", "x") + " " + d.pick("cat", "cat OR dog", "\"dogs and\"", "c*", "owl", "(", "cat NOT dog", "")
	case 3:
		return "wordsof " + d.pick("", "Cats", "some  Dogs", "-", "it's 3")
	case 4:
		return "print " + d.pick(d.statement(), d.statement(), "", "x", "begin;")
	}
	return d.statement()
}

// number is one, mostly.
func (d *die) number() string {
	return d.pick("-1", "-1", "0", "1", "2", "3", "5", "1000", "1000", "-9223372036854775808", "9223372036854775807", "-0", "01", "+1", "9223372036854775808", "x")
}

// changed is a line, perhaps with other blanks, or a word less or more.
func (d *die) changed(s string) string {
	l := strings.Split(s, " ")
	i := d.below(len(l))
	switch d.below(12) {
	case 0:
		l[i] = ""
	case 1:
		l[i] += " " + l[i]
	case 2:
		l[i] += d.pick(" ", "  ", " x", "\t", "\r")
	case 3:
		l[i] = d.pick(" ", "  ", "\t") + l[i]
	}
	return strings.Join(l, " ")
}

// model answers lines by the promise alone.
type model struct {
	disk *disk.Disk
	base *base.Base
}

var (
	aWord   = regexp.MustCompile(`[^ ]+`)
	aNumber = regexp.MustCompile(`^(0|-?[1-9][0-9]*)$`)
)

// numbers are two words as numbers.
func numbers(l []string) (n [2]int, ok bool) {
	if len(l) != 2 {
		return n, false
	}
	for i, w := range l {
		var b big.Int
		if _, is := b.SetString(w, 10); !is || !aNumber.MatchString(w) || !b.IsInt64() {
			return n, false
		}
		n[i] = int(b.Int64())
	}
	return n, true
}

// told is an answer, or its error.
func told(answer string, err error) string {
	if err != nil {
		return fmt.Sprint("error ", int(api.Tell(err)))
	}
	return answer
}

func (m *model) answer(line string) string {
	l := aWord.FindAllString(line, -1)
	if len(l) == 0 {
		return "ok"
	}
	rest := strings.Join(l[1:], " ")
	switch first := l[0] + " "; first {
	case "cut ":
		n, ok := numbers(l[1:])
		if !ok {
			return "error 3"
		}
		m.disk.Cut(n[0], n[1])
		return "cut"
	case "open ", "tables ", "state ", "help ":
		if rest != "" {
			return "error 3"
		}
		return m.alone(l[0])
	case "print ":
		x, err := parse.Parse(rest)
		return told(parse.Print(x), err)
	case "wordsof ":
		s := "words"
		for _, w := range word.Split(rest) {
			s += " " + w
		}
		return s
	case "lookup ":
		if len(l) < 4 {
			return "error 3"
		}
		return told(m.lookup(l[1], l[2], strings.Join(l[3:], " ")))
	}
	return m.statement(line)
}

// alone answers a line of one word.
func (m *model) alone(line string) string {
	switch line {
	case "open":
		m.disk.Cut(-1, 0)
		b, err := base.Open(m.disk)
		m.base = b
		return told("open", err)
	case "tables":
		l, err := m.base.Store().Catalog.Names()
		return told(strings.TrimSuffix("tables "+strings.Join(l, " "), " "), err)
	case "state":
		return fmt.Sprint(m.base.Down(), " ", m.base.Inside(), " ", m.base.Done())
	}
	return "cut help lookup open print state tables wordsof"
}

func (m *model) lookup(table, column, text string) (string, error) {
	e, err := m.base.Store().Catalog.Get(table)
	if err != nil {
		return "", err
	}
	for i, c := range e.Table.Columns {
		if c.Name != column {
			continue
		}
		q, err := match.Parse(text)
		if err != nil {
			return "", err
		}
		hits, err := match.Eval(m.base.Store().Words, fmt.Sprint("t", e.Id, "c", i), q)
		s := fmt.Sprint(hits)
		return "found " + strings.ReplaceAll(strings.Trim(s, "[{}]"), "} {", ", "), err
	}
	return "", api.ErrName
}

func (m *model) statement(line string) string {
	a, err := m.base.Say(line)
	if x, _ := parse.Parse(line); x.Kind != api.Select {
		return told(fmt.Sprint("done ", a.Count), err)
	}
	s := "rows"
	for i, row := range a.Rows {
		s += strings.Repeat(",", min(i, 1))
		for _, v := range row {
			switch v.Kind {
			case api.Null:
				s += " null"
			case api.Int:
				s += fmt.Sprint(" ", v.Num)
			default:
				s += " '" + strings.ReplaceAll(v.Text, "'", "''") + "'"
			}
		}
	}
	if len(a.Rows) == 0 {
		s += " "
	}
	return told(s, err)
}

// TestModel: 17.1: drawn sessions, line by line against a model that goes by the promise alone; and the answers to the first lines are the beginning of the answers to all.
func TestModel(t *testing.T) {
	met := map[string]int{}
	for seed := range 250 {
		d := die(seed)
		m := &model{disk: &disk.Disk{}}
		m.alone("open")
		l := []string{"create table t (a int, b text words, c int)", "create table u (a int not null, c text)", "insert into t values (1, 'a cat', 5), (2, 'dogs, dogs and cats', null)", "insert into u values (2, 'x')"}
		for range 5 + d.below(40) {
			l = append(l, d.changed(d.line()))
		}
		all := Session(strings.Join(l, "\n") + "\n")
		text, want := "", ""
		for _, line := range l {
			text += line + "\n"
			answer := m.answer(line)
			want += answer + "\n"
			if !strings.HasPrefix(all, want) {
				t.Fatalf("seed %d: %q: %q is not answered %q, but %q", seed, text, line, answer, all)
			}
			if got := Session(text); got != want {
				t.Fatalf("seed %d: %q: %q, want %q", seed, text, got, want)
			}
			met[strings.Join(strings.SplitN(answer, " ", 3)[:min(2, strings.Count(answer, " ")+1)], " ")]++
		}
		if all != want {
			t.Fatalf("seed %d: %q: %q, want %q", seed, text, all, want)
		}
	}
	for _, s := range []string{"ok", "open", "cut", "cut help", "words", "words cat", "found 1", "found ", "tables t", "true false", "false true", "false false", "done 0", "done 1", "done 2", "rows ", "rows 1", "rows null", "create table", "error 1", "error 3", "error 5", "error 6", "error 7", "error 9", "error 13", "error 14"} {
		if met[s] == 0 {
			t.Errorf("%q was never answered: %v", s, met)
		}
	}
}
