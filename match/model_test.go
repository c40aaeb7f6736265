package match

import (
	"fmt"
	"regexp"
	"slices"
	"strings"
	"testing"

	"concordance/api"
	"concordance/word"
)

// die: numbers that look drawn, the same each time.
type die uint64

func (d *die) below(n int) int {
	*d = *d*6364136223846793005 + 1442695040888963407
	return int(uint64(*d>>33) % uint64(n))
}

// pick is one of these.
func (d *die) pick(l ...string) string { return l[d.below(len(l))] }

// word is one of few that have no end.
func (d *die) word() string { return d.pick("a", "b", "cat", "dog", "x1", "jump", "or", "not") }

// Patterns: of what a text is cut into, of what words begin with, and, of letters that stand for pieces, of a ONE, of what stands in parentheses, and of all.
const several = `X(A?X|NX)*(OX(A?X|NX)*)*`

var (
	pieces = regexp.MustCompile(`"[^"]*"|[()*]|[^ ()*"]+`)
	begins = regexp.MustCompile(`^[A-Za-z0-9]{1,12}$`)
	ones   = regexp.MustCompile(`[wp]~[wpAON~]|w\*|[wp]|q`)
	inner  = regexp.MustCompile(`\(` + several + `\)`)
	whole  = regexp.MustCompile(`^` + several + `$`)
)

// sorts turns each piece into a letter: w a run that may be plain, and a beginning; p plain alone; x neither; q what stands in quotes, e if it has no words; A O N ~ the signs.
func sorts(s string) string {
	var b strings.Builder
	for _, m := range pieces.FindAllString(s, -1) {
		n := len(word.Split(m))
		switch {
		case m == "(" || m == ")" || m == "*":
			b.WriteString(m)
		case m == "AND" || m == "OR" || m == "NOT":
			b.WriteString(m[:1])
		case m == "NEAR":
			b.WriteString("~")
		case m[0] == '"' && n > 0:
			b.WriteString("q")
		case m[0] == '"':
			b.WriteString("e")
		case begins.MatchString(m):
			b.WriteString("w")
		case n == 1:
			b.WriteString("p")
		default:
			b.WriteString("x")
		}
	}
	return b.String()
}

// forms takes a form apart by patterns: what is a ONE is X, and what stands in parentheses, too, from within.
func forms(s string) bool {
	s = ones.ReplaceAllString(s, "X")
	for ahead := ""; ahead != s; {
		ahead = s
		s = inner.ReplaceAllString(s, "X")
	}
	return whole.MatchString(s)
}

// wants is which error a text is told: by patterns alone. It is too deep, if what stands up to the first parenthesis that is too deep may be the beginning of something.
func wants(s string) error {
	if strings.Count(s, `"`)%2 == 1 {
		return api.ErrForm
	}
	l := sorts(s)
	deep := 0
	for i := range len(l) {
		switch l[i] {
		case '(':
			deep++
		case ')':
			deep--
		}
		if deep > api.MaxDepth {
			if forms(l[:i+1] + "w" + strings.Repeat(")", deep)) {
				return api.ErrLimit
			}
			return api.ErrForm
		}
	}
	if !forms(l) {
		return api.ErrForm
	}
	return nil
}

// TestModelForms: 8.1, P2: pieces, side by side as they come, held against patterns.
func TestModelForms(t *testing.T) {
	d := die(1)
	told := map[error]int{}
	for range 60000 {
		s := ""
		for range d.below(9) {
			s += d.pick("a", "b", "a", "cat", "(", "(", ")", ")", "*", `"a b"`, `"a"`, `""`, `"`, "OR", "AND", "NOT", "NEAR", "a-b", "'a'", "-", "a\tb", "\xff", "thirteenlette", "near")
			s += d.pick(" ", " ", " ", "", "  ")
		}
		if d.below(8) == 0 {
			s = s + strings.Repeat("(", 8+d.below(6)) + s
		}
		q, err := Parse(s)
		if err != wants(s) || (q == nil) != (err != nil) {
			t.Fatalf("Parse(%q) = %s, %v, want %v", s, show(q), err, wants(s))
		}
		told[err]++
	}
	for _, err := range []error{nil, api.ErrForm, api.ErrLimit} {
		if told[err] < 200 {
			t.Errorf("%v was told only %d times", err, told[err])
		}
	}
}

// query is one that is drawn, and a text of which it must be read: loose is how loosely it holds: 0 a ONE, 1 an ALL, 2 an ANY.
func (d *die) query(deep, loose int) (*Query, string) {
	between := func() string { return d.pick(" ", " ", "   ") }
	if deep == 0 || d.below(3) == 0 {
		w, v := d.word(), d.word()
		switch d.below(5) {
		case 0:
			return quote(w, v), `"` + w + d.pick(" ", "-", ", (") + strings.ToUpper(v) + `"`
		case 1:
			return start(w[:1]), w[:1] + d.pick("*", " *")
		case 2:
			return nigh(w, v), w + between() + "NEAR" + between() + d.pick(v, strings.ToUpper(v))
		}
		return quote(w), d.pick(w, w+"'", `"`+w+`"`)
	}
	if loose == 0 || d.below(4) == 0 {
		q, s := d.query(deep-1, 2)
		return q, "(" + d.pick("", " ") + s + d.pick("", " ") + ")"
	}
	switch d.below(1 + loose) {
	case 0:
		a, s := d.query(deep-1, 1)
		b, r := d.query(deep-1, 0)
		return both(a, b), s + d.pick(" ", " AND ") + r
	case 1:
		a, s := d.query(deep-1, 1)
		b, r := d.query(deep-1, 0)
		return but(a, b), s + between() + "NOT" + between() + r
	}
	a, s := d.query(deep-1, 2)
	b, r := d.query(deep-1, 1)
	return either(a, b), s + between() + "OR" + between() + r
}

// often is how often a query is found in a text's words, by its promise alone; and whether it is.
func often(q *Query, l []string) (n int, is bool) {
	switch q.Kind {
	case Words:
		for i := range l {
			if len(q.Words) <= i+1 && slices.Equal(l[i+1-len(q.Words):i+1], q.Words) {
				n++
			}
		}
		return n, n > 0
	case Begin:
		for _, w := range l {
			if strings.HasPrefix(w, q.Words[0]) {
				n++
			}
		}
		return n, n > 0
	case Near:
		for i, w := range l {
			for j, v := range l {
				if w == q.Words[0] && v == q.Words[1] && max(i-j, j-i) <= q.Far {
					return 1, true
				}
			}
		}
		return 0, false
	}
	a, first := often(q.Left, l)
	b, second := often(q.Right, l)
	switch {
	case q.Kind == And && first && second, q.Kind == Or && (first || second):
		return a + b, true
	case q.Kind == Without && first && !second:
		return a, true
	}
	return 0, false
}

// TestModel: 8.1, 8.2: queries that are drawn: read as they were meant, and found row by row as their promises say.
func TestModel(t *testing.T) {
	for seed := range 60 {
		d := die(seed)
		f, _, _ := empty(t)
		texts := map[int][]string{}
		for i := range 12 {
			far := i * 5 % 12
			row := 1 + 70*far*far
			s := ""
			for range d.below(9) {
				s += d.pick(d.word(), d.word(), "jumping", "Cats", "dogs") + d.pick(" ", "-")
			}
			s = s[:min(len(s), api.MaxLetter)]
			add(t, f, "n", row, s)
			texts[row] = word.Split(s)
		}
		for range 60 {
			want, s := d.query(1+d.below(5), 2)
			reads(t, s, want)
			var hits []Hit
			for row, l := range texts {
				if n, is := often(want, l); is {
					hits = append(hits, Hit{row, n})
				}
			}
			slices.SortFunc(hits, func(a, b Hit) int { return a.Row - b.Row })
			finds(t, f, s, hits...)
			if t.Failed() {
				t.Fatalf("seed %d", seed)
			}
		}
	}
}

// TestTogether: 8.2: of two queries that may be each by itself, in ( and ): what both find is found with AND, what either finds with OR, what the first one finds alone with NOT.
func TestTogether(t *testing.T) {
	d := die(9)
	var texts []string
	for range 14 {
		s := ""
		for range d.below(7) {
			s += d.word() + " "
		}
		texts = append(texts, s[:min(len(s), api.MaxLetter)])
	}
	f := noted(t, texts...)
	rows := func(s string) map[int]int {
		q, err := Parse(s)
		if err != nil {
			t.Fatalf("Parse(%q): %v", s, err)
		}
		l, err := Eval(f, "n", q)
		if err != nil {
			t.Fatalf("Eval of %q: %v", s, err)
		}
		m := map[int]int{}
		for i, h := range l {
			if h.Often < 1 || i > 0 && l[i-1].Row >= h.Row {
				t.Fatalf("Eval of %q: %v", s, l)
			}
			m[h.Row] = h.Often
		}
		return m
	}
	for range 1000 {
		_, a := d.query(4, 2)
		_, b := d.query(4, 2)
		first, second := rows(a), rows(b)
		and, either, not := map[int]int{}, map[int]int{}, map[int]int{}
		for row := range len(texts) + 1 {
			n, m := first[row], second[row]
			if n > 0 && m > 0 {
				and[row] = n + m
			}
			if n > 0 || m > 0 {
				either[row] = n + m
			}
			if n > 0 && m == 0 {
				not[row] = n
			}
		}
		for between, want := range map[string]map[int]int{" AND ": and, " ": and, "": and, " OR ": either, "OR": either, " NOT ": not} {
			s := "(" + a + ")" + between + "(" + b + ")"
			if got := rows(s); fmt.Sprint(got) != fmt.Sprint(want) {
				t.Fatalf("%q is found %v, want %v", s, got, want)
			}
		}
	}
}
