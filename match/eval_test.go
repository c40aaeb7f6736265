package match

import (
	"math"
	"slices"
	"strings"
	"testing"
	"unsafe"

	"concordance/api"
	"concordance/finder"
)

// TestEvalWords: 8.2: of one word how often it stands; of several at how many places of the last one all stand one right behind the other.
func TestEvalWords(t *testing.T) {
	f := noted(t, "the cat and the dog", "dog the cat cats the cat", "", "cat dog cat the dog", "Dogs. The CATS!")
	finds(t, f, "cat", Hit{1, 1}, Hit{2, 3}, Hit{4, 2}, Hit{5, 1})
	finds(t, f, "Cats", Hit{1, 1}, Hit{2, 3}, Hit{4, 2}, Hit{5, 1})
	finds(t, f, "dog", Hit{1, 1}, Hit{2, 1}, Hit{4, 2}, Hit{5, 1})
	finds(t, f, "and", Hit{1, 1})
	finds(t, f, "ca")
	finds(t, f, "none")
	finds(t, f, `"cat"`, Hit{1, 1}, Hit{2, 3}, Hit{4, 2}, Hit{5, 1})
	finds(t, f, `"the cat"`, Hit{1, 1}, Hit{2, 2}, Hit{5, 1})
	finds(t, f, `"cat the"`, Hit{2, 1}, Hit{4, 1})
	finds(t, f, `"the dog"`, Hit{1, 1}, Hit{4, 1})
	finds(t, f, `"dog the cat"`, Hit{2, 1}, Hit{5, 1})
	finds(t, f, `"the cat and the dog"`, Hit{1, 1})
	finds(t, f, `"the cat and the dog none"`)
	finds(t, f, `"none the cat"`)
	finds(t, f, `"the none cat"`)
	finds(t, f, `"dog the cat and"`)
	finds(t, f, `"and cat"`)
}

// TestEvalWordTwiceInQuotes: 8.2: a word that stands twice between quotes must stand twice; places of the last one count, each once.
func TestEvalWordTwiceInQuotes(t *testing.T) {
	f := noted(t, "a", "a a", "a a a", "a b a", "a b a b a", "a a b a a", "b a a a a", "a x a x", "a b b a")
	finds(t, f, `"a a"`, Hit{2, 1}, Hit{3, 2}, Hit{6, 2}, Hit{7, 3})
	finds(t, f, `"a a a"`, Hit{3, 1}, Hit{7, 2})
	finds(t, f, `"a a a a"`, Hit{7, 1})
	finds(t, f, `"a a a a a"`)
	finds(t, f, `"a b a"`, Hit{4, 1}, Hit{5, 2}, Hit{6, 1})
	finds(t, f, `"a b a b a"`, Hit{5, 1})
	finds(t, f, `"b a b"`, Hit{5, 1})
	finds(t, f, `"a b a a"`, Hit{6, 1})
	finds(t, f, `"a a b a"`, Hit{6, 1})
	finds(t, f, `"b b"`, Hit{9, 1})
	finds(t, f, `"As A a"`)
	finds(t, f, `"A-a"`, Hit{2, 1}, Hit{3, 2}, Hit{6, 2}, Hit{7, 3})
}

// TestEvalNotOverRows: 8.2: words that stand in several rows, or in texts of other names, do not stand one behind the other.
func TestEvalNotOverRows(t *testing.T) {
	f := noted(t, "x cat", "y dog", "dog cat", "z z dog")
	add(t, f, "m", 1, "dog")
	add(t, f, "m", 2, "cat dog")
	finds(t, f, `"cat dog"`)
	finds(t, f, "cat NEAR z")
	finds(t, f, "x NEAR dog")
	found(t, f, "m", quote("cat", "dog"), Hit{2, 1})
	found(t, f, "m", quote("dog"), Hit{1, 1}, Hit{2, 1})
	found(t, f, "m", start("z"))
	found(t, f, "mn", quote("dog"))
	found(t, f, "", quote("dog"))
	found(t, f, "n\x00", quote("dog"))
	found(t, f, "n\x00dog", quote("dog"))
	found(t, f, strings.Repeat("n", api.MaxName+1), start("d"))
}

// TestEvalBegin: 8.2: how many places all words have together that begin so.
func TestEvalBegin(t *testing.T) {
	f := noted(t, "cat catalog cats", "dog", "ca c cow", "jumping jump", "catalog jumped")
	finds(t, f, "c*", Hit{1, 3}, Hit{3, 3}, Hit{5, 1})
	finds(t, f, "cat*", Hit{1, 3}, Hit{5, 1})
	finds(t, f, "CAT*", Hit{1, 3}, Hit{5, 1})
	finds(t, f, "cata*", Hit{1, 1}, Hit{5, 1})
	finds(t, f, "ca*", Hit{1, 3}, Hit{3, 1}, Hit{5, 1})
	finds(t, f, "d*", Hit{2, 1})
	finds(t, f, "jump*", Hit{4, 2}, Hit{5, 1})
	// What stands there has no such ends any more.
	finds(t, f, "jumping*")
	finds(t, f, "cats*")
	finds(t, f, "z*")
}

// TestEvalBeginAtOnePlace: 8.2: words that two texts have at the same place of one row are two.
func TestEvalBeginAtOnePlace(t *testing.T) {
	f := noted(t, "cat", "cow")
	add(t, f, "n", 1, "cow")
	add(t, f, "n", 1, "dog crow")
	finds(t, f, "c*", Hit{1, 3}, Hit{2, 1})
	finds(t, f, "co*", Hit{1, 1}, Hit{2, 1})
	finds(t, f, `"cat crow"`, Hit{1, 1})
}

// TestEvalNear: 8.2: rows in which two words stand at most three from each other, whichever is the first one, once.
func TestEvalNear(t *testing.T) {
	f := noted(t, "a b", "a x b", "a x x b", "a x x x b", "b x x a", "b x x x a", "a b a b a b", "a", "b", "a x x x b x a", "")
	for _, s := range []string{"a NEAR b", "b NEAR a", "A NEAR B."} {
		finds(t, f, s, Hit{1, 1}, Hit{2, 1}, Hit{3, 1}, Hit{5, 1}, Hit{7, 1}, Hit{10, 1})
	}
	finds(t, f, "a NEAR a", Hit{1, 1}, Hit{2, 1}, Hit{3, 1}, Hit{4, 1}, Hit{5, 1}, Hit{6, 1}, Hit{7, 1}, Hit{8, 1}, Hit{10, 1})
	finds(t, f, "a NEAR none")
	finds(t, f, "none NEAR a")
	// Far is the query's own.
	found(t, f, "n", &Query{Kind: Near, Words: []string{"a", "b"}, Far: 1}, Hit{1, 1}, Hit{7, 1})
}

// TestEvalTogether: 8.2: And: rows of both, Or: of either, both's together; Without: rows of the first one alone, as often as there.
func TestEvalTogether(t *testing.T) {
	f := noted(t, "a a b", "a a a", "b b", "c", "a b b b c", "a c")
	finds(t, f, "a", Hit{1, 2}, Hit{2, 3}, Hit{5, 1}, Hit{6, 1})
	finds(t, f, "b", Hit{1, 1}, Hit{3, 2}, Hit{5, 3})
	for _, s := range []string{"a b", "a AND b", "b a", "b AND a", "(a) (b)"} {
		finds(t, f, s, Hit{1, 3}, Hit{5, 4})
	}
	for _, s := range []string{"a OR b", "b OR a"} {
		finds(t, f, s, Hit{1, 3}, Hit{2, 3}, Hit{3, 2}, Hit{5, 4}, Hit{6, 1})
	}
	finds(t, f, "a NOT b", Hit{2, 3}, Hit{6, 1})
	finds(t, f, "b NOT a", Hit{3, 2})
	finds(t, f, "a NOT b NOT c", Hit{2, 3})
	finds(t, f, "a NOT (b NOT c)", Hit{2, 3}, Hit{5, 1}, Hit{6, 1})
	finds(t, f, "a b c", Hit{5, 5})
	finds(t, f, "a OR b OR c", Hit{1, 3}, Hit{2, 3}, Hit{3, 2}, Hit{4, 1}, Hit{5, 5}, Hit{6, 2})
	finds(t, f, "c OR a b", Hit{1, 3}, Hit{4, 1}, Hit{5, 5}, Hit{6, 1})
	finds(t, f, "(c OR a) b", Hit{1, 3}, Hit{5, 5})
	finds(t, f, "a a", Hit{1, 4}, Hit{2, 6}, Hit{5, 2}, Hit{6, 2})
	finds(t, f, "a OR a", Hit{1, 4}, Hit{2, 6}, Hit{5, 2}, Hit{6, 2})
	finds(t, f, "a NOT a")
	finds(t, f, "a none")
	finds(t, f, "none a")
	finds(t, f, "a OR none", Hit{1, 2}, Hit{2, 3}, Hit{5, 1}, Hit{6, 1})
	finds(t, f, "none OR a", Hit{1, 2}, Hit{2, 3}, Hit{5, 1}, Hit{6, 1})
	finds(t, f, "a NOT none", Hit{1, 2}, Hit{2, 3}, Hit{5, 1}, Hit{6, 1})
	finds(t, f, "none NOT a")
	finds(t, f, `a* "b b" NOT a NEAR c`, Hit{5, 3})
	finds(t, f, `(a* "b b") OR a NEAR c`, Hit{5, 3}, Hit{6, 1})
}

// TestEvalRows: 8.2: rows rise, as far as they may go, whatever was noted first.
func TestEvalRows(t *testing.T) {
	f, _, _ := empty(t)
	for _, row := range []int{1 << 30, 300, 1, 1 << 20, 256, 2} {
		add(t, f, "n", row, "cat dog")
	}
	add(t, f, "n", 255, "dog")
	add(t, f, "n", 257, "cow")
	finds(t, f, "cat", Hit{1, 1}, Hit{2, 1}, Hit{256, 1}, Hit{300, 1}, Hit{1 << 20, 1}, Hit{1 << 30, 1})
	finds(t, f, "cat OR d*", Hit{1, 2}, Hit{2, 2}, Hit{255, 1}, Hit{256, 2}, Hit{300, 2}, Hit{1 << 20, 2}, Hit{1 << 30, 2})
	finds(t, f, "c*", Hit{1, 1}, Hit{2, 1}, Hit{256, 1}, Hit{257, 1}, Hit{300, 1}, Hit{1 << 20, 1}, Hit{1 << 30, 1})
	if err := f.Drop("n", 256, "cat"); err != nil {
		t.Fatal(err)
	}
	finds(t, f, `"cat dog"`, Hit{1, 1}, Hit{2, 1}, Hit{300, 1}, Hit{1 << 20, 1}, Hit{1 << 30, 1})
	finds(t, f, "dog NOT cat", Hit{255, 1}, Hit{256, 1})
}

// TestEvalNothingNoted: 8.2: where nothing stands nothing is found.
func TestEvalNothingNoted(t *testing.T) {
	f, _, _ := empty(t)
	for _, s := range []string{"a", `"a b"`, "a*", "a NEAR b", "a b", "a OR b", "a NOT b"} {
		finds(t, f, s)
	}
}

// TestEvalDown: 8.2, P2, P3: if the pager is Down, ErrState, and no row, whatever is looked for.
func TestEvalDown(t *testing.T) {
	for _, texts := range [][]string{{}, {"a b", "b c"}} {
		f, p, d := empty(t)
		for i, s := range texts {
			add(t, f, "n", i+1, s)
		}
		d.Cut(0, 0)
		if err := p.Commit(); err != api.ErrDevice {
			t.Fatalf("Commit: %v", err)
		}
		for _, s := range []string{"a", "none", `"a b"`, `"none a"`, "a*", "z*", "a NEAR b", "none NEAR none", "a b", "a OR b", "none OR a", "a NOT b", "(a OR b) NOT (c d*)"} {
			q, err := Parse(s)
			if err != nil {
				t.Fatalf("Parse(%q): %v", s, err)
			}
			for _, name := range []string{"n", "m", "", "n\x00"} {
				if l, err := Eval(f, name, q); len(l) != 0 || err != api.ErrState {
					t.Errorf("Eval(%q, %q) = %v, %v", name, s, l, err)
				}
			}
		}
	}
}

// TestEvalAsThePagerIs: P1, P4: a query keeps nothing of what it was asked: what is taken back is not found any more.
func TestEvalAsThePagerIs(t *testing.T) {
	f, p, _ := empty(t)
	add(t, f, "n", 1, "cat")
	if err := p.Commit(); err != nil {
		t.Fatal(err)
	}
	add(t, f, "n", 2, "cat cat")
	finds(t, f, "cat", Hit{1, 1}, Hit{2, 2})
	if err := p.Rollback(); err != nil {
		t.Fatal(err)
	}
	finds(t, f, "cat", Hit{1, 1})
	g, _, _ := empty(t)
	q, _ := Parse("cat")
	found(t, f, "n", q, Hit{1, 1})
	found(t, g, "n", q)
	found(t, f, "n", q, Hit{1, 1})
}

// TestEvalStrange: P1, P2: no query makes it panic; of what Parse never tells nothing is found.
func TestEvalStrange(t *testing.T) {
	f := noted(t, "a b", "a")
	a := quote("a")
	for _, q := range []*Query{
		nil, {}, {Kind: -1, Words: []string{"a"}}, {Kind: 7, Left: a, Right: a}, {Kind: math.MinInt}, {Kind: math.MaxInt},
		{Kind: Words}, {Kind: Words, Words: []string{}}, {Kind: Begin}, {Kind: Near}, {Kind: Near, Words: []string{"a"}},
		{Kind: Near, Words: []string{"a", "b"}, Far: math.MinInt}, {Kind: Near, Words: []string{"a", "b"}},
		{Kind: And}, {Kind: Or}, {Kind: Without}, {Kind: And, Left: a}, {Kind: And, Right: a}, {Kind: Without, Right: a}, {Kind: Words, Words: []string{"", "\x00", "a\x00"}}, {Kind: Words, Words: []string{""}},
	} {
		found(t, f, "n", q)
	}
	found(t, f, "n", &Query{Kind: Or, Right: a}, Hit{1, 1}, Hit{2, 1})
	found(t, f, "n", &Query{Kind: Or, Left: a}, Hit{1, 1}, Hit{2, 1})
	found(t, f, "n", &Query{Kind: Without, Left: a}, Hit{1, 1}, Hit{2, 1})
	found(t, f, "n", &Query{Kind: Near, Words: []string{"a", "b"}, Far: math.MaxInt}, Hit{1, 1})
	found(t, f, "n", &Query{Kind: And, Left: a, Right: a, Words: []string{"b"}, Far: 9}, Hit{1, 2}, Hit{2, 2})
	if l, err := Eval(nil, "n", a); len(l) != 0 || err != api.ErrMissing {
		t.Errorf("Eval without a finder = %v, %v", l, err)
	}
}

// TestEvalLong: P1, Limits: queries with many parts in one another, left or right, and of many words.
func TestEvalLong(t *testing.T) {
	f := noted(t, "a b", "a a")
	const many = 1 << 15
	for s, want := range map[string][]Hit{
		" a":     {{1, many + 1}, {2, 2 * (many + 1)}},
		" OR a":  {{1, many + 1}, {2, 2 * (many + 1)}},
		" NOT c": {{1, 1}, {2, 2}},
	} {
		finds(t, f, "a"+strings.Repeat(s, many), want...)
	}
	finds(t, f, `"`+strings.Repeat("a ", 1<<20)+`"`)
	q := quote("b")
	for range 1 << 15 {
		q = but(quote("a"), q)
	}
	found(t, f, "n", q, Hit{1, 1})
}

// TestParseAndEvalAnyBytes: P1: whatever bytes there are, both end, and none panics.
func TestParseAndEvalAnyBytes(t *testing.T) {
	f := noted(t, "a b", "\xff or near", "not and or")
	d := die(5)
	for range 200000 {
		b := make([]byte, d.below(12))
		for i := range b {
			b[i] = "()*\"  ab-\xff\x00"[d.below(11)]
		}
		q, err := Parse(string(b))
		if (q == nil) != (err != nil) || err != nil && err != api.ErrForm {
			t.Fatalf("Parse(%q) = %s, %v", b, show(q), err)
		}
		if q != nil && d.below(20) == 0 {
			if _, err := Eval(f, "n", q); err != nil {
				t.Fatalf("Eval of %q: %v", b, err)
			}
		}
	}
}

// scrawl writes over a text's memory.
func scrawl(s string) {
	for i := range len(s) {
		unsafe.Slice(unsafe.StringData(s), len(s))[i] = '!'
	}
}

// TestParseKeepsNothing: P4: no memory of a text that is handed in is kept, and it is not written into.
func TestParseKeepsNothing(t *testing.T) {
	const text = `cat dogs* OR "one two" NOT near NEAR far`
	b := []byte(text)
	q, err := Parse(unsafe.String(&b[0], len(b)))
	if err != nil || string(b) != text {
		t.Fatalf("%v, %q", err, b)
	}
	for i := range b {
		b[i] = '!'
	}
	want := either(both(quote("cat"), start("dogs")), but(quote("one", "two"), nigh("near", "far")))
	if show(q) != show(want) {
		t.Errorf("%s, want %s", show(q), show(want))
	}
}

// lists are all lists of a query, and all of its queries.
func lists(q *Query) (l [][]string, all []*Query) {
	if q == nil {
		return nil, nil
	}
	l, all = append(l, q.Words), append(all, q)
	for _, side := range []*Query{q.Left, q.Right} {
		m, more := lists(side)
		l, all = append(l, m...), append(all, more...)
	}
	return l, all
}

// TestParseAnswersAreFresh: P4: what comes out shares no memory, with itself or another answer.
func TestParseAnswersAreFresh(t *testing.T) {
	const text = `cat OR (cat cat*) NOT "cat cat" OR cat NEAR cat OR cat* cat*`
	q, _ := Parse(text)
	r, _ := Parse(text)
	want := show(r)
	l, all := lists(q)
	_, others := lists(r)
	for i, p := range all {
		if slices.Contains(all[:i], p) || slices.Contains(others, p) {
			t.Errorf("a query stands there twice: %s", show(p))
		}
	}
	for i := range l {
		before := show(q)
		old := slices.Clone(l[i][:cap(l[i])])
		for j := range l[i][:cap(l[i])] {
			l[i][:cap(l[i])][j] = "x"
		}
		for k := range l {
			if k != i && slices.Contains(l[k], "x") {
				t.Errorf("two lists of %s share memory", before)
			}
		}
		copy(l[i][:cap(l[i])], old)
	}
	for _, m := range l {
		for _, s := range m {
			scrawl(s)
		}
	}
	if got := show(r); got != want {
		t.Errorf("two answers share memory: %s, want %s", got, want)
	}
	reads(t, text, r)
}

// TestEvalAnswersAreFresh: P4: a query is not written into, nor what stands behind its lists; two answers share no memory.
func TestEvalAnswersAreFresh(t *testing.T) {
	f := noted(t, "a b", "a b a", "b a")
	words := make([]string, 2, 5)
	copy(words[:5], []string{"a", "b", "x", "y", "z"})
	w := &Query{Kind: Words, Words: words}
	n := &Query{Kind: Near, Words: words, Far: 3}
	b := &Query{Kind: Begin, Words: words[:1]}
	for _, q := range []*Query{w, n, b, both(w, n), either(w, b), but(b, w), either(b, quote("none")), either(quote("none"), b), but(b, quote("none"))} {
		before := show(q)
		l, err := Eval(f, "n", q)
		m, _ := Eval(f, "n", q)
		want := slices.Clone(m)
		if err != nil || len(l) == 0 || !slices.Equal(l, m) {
			t.Fatalf("%s: %v, %v, %v", before, l, m, err)
		}
		clear(l[:cap(l)])
		if !slices.Equal(m, want) {
			t.Errorf("%s: two answers share memory", before)
		}
		found(t, f, "n", q, want...)
		if show(q) != before || !slices.Equal(words[:5], []string{"a", "b", "x", "y", "z"}) {
			t.Errorf("%s is written into: %s, %q", before, show(q), words[:5])
		}
	}
}

// TestEvalChangesNothing: P2, P4: what is looked for is only looked for.
func TestEvalChangesNothing(t *testing.T) {
	f := noted(t, "a b", "a b a", "b a")
	want := all(t, f)
	for _, s := range []string{"a", `"a b"`, "a*", "a NEAR b", "a OR b NOT c"} {
		q, _ := Parse(s)
		if _, err := Eval(f, "n", q); err != nil {
			t.Errorf("Eval of %q: %v", s, err)
		}
	}
	if got := all(t, f); got != want {
		t.Errorf("%s, want %s", got, want)
	}
}

// all is all that a finder tells of a name.
func all(t *testing.T, f *finder.Finder) string {
	t.Helper()
	var b strings.Builder
	words, err := f.Begin("n", "")
	if err != nil {
		t.Fatal(err)
	}
	for _, w := range words {
		l, err := f.Places("n", w)
		if err != nil {
			t.Fatal(err)
		}
		b.WriteString(w)
		for _, p := range l {
			b.WriteString(" " + string(rune('0'+p.Row)) + "." + string(rune('0'+p.At)))
		}
		b.WriteString(";")
	}
	return b.String()
}
