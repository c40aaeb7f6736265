package desk

import (
	"strings"
	"testing"
)

// pair is a line, and what it must be answered.
type pair struct{ line, want string }

// pairs are those of a text: a line each, what it is answered behind =>, with · for a blank at its end.
func pairs(t testing.TB, text string) (l []pair) {
	t.Helper()
	for _, s := range strings.Split(text, "\n") {
		if strings.TrimSpace(s) == "" {
			continue
		}
		line, want, found := strings.Cut(s, "=>")
		if !found {
			t.Fatalf("%s: nothing is wanted", s)
		}
		l = append(l, pair{strings.TrimSpace(line), strings.ReplaceAll(strings.TrimSpace(want), "·", " ")})
	}
	return l
}

// talk fails, unless the lines of a text are answered what stands behind => in them, each wherever the text ends.
func talk(t testing.TB, text string) {
	t.Helper()
	answers(t, pairs(t, text))
}

// answers fails, unless lines are answered so, each wherever the text ends, with a line feed at its end, and without.
func answers(t testing.TB, l []pair) {
	t.Helper()
	text, want := "", ""
	for i, p := range l {
		text += p.line + "\n"
		want += p.want + "\n"
		got := Session(text)
		if got != want {
			t.Errorf("line %d, %.200q: %.300q, want %.300q", i+1, p.line, last(got), p.want)
			return
		}
		if p.line == "" {
			continue
		}
		if again := Session(text[:len(text)-1]); again != want {
			t.Errorf("line %d, %.200q, without a line feed: %.300q, want %.300q", i+1, p.line, last(again), p.want)
			return
		}
	}
}

// last is the last line of an answer.
func last(s string) string {
	l := strings.Split(strings.TrimSuffix(s, "\n"), "\n")
	return l[len(l)-1]
}

// gives fails, unless a text is answered just that.
func gives(t testing.TB, text, want string) {
	t.Helper()
	if got := Session(text); got != want {
		t.Errorf("Session(%.100q) (%d bytes) = %.300q (%d bytes), want %.300q (%d bytes)", text, len(text), got, len(got), want, len(want))
	}
}

// animals are two tables, with words and indexes.
const animals = `
	create table t (a int not null, b text words, c text) => done 0
	create table u (a int, d int)                         => done 0
	create index on t (a)                                 => done 0
	insert into t values (1, 'black cats', 'x'), (2, 'dogs', null), (3, 'cat, cow and cats', 'cats') => done 3
	insert into u values (1, -5), (null, 7)               => done 2
`
