package match

import (
	"fmt"
	"slices"
	"strings"
	"testing"

	"concordance/api"
	"concordance/disk"
	"concordance/finder"
	"concordance/pager"
	"concordance/tree"
)

// Queries, written by hand.
func quote(l ...string) *Query  { return &Query{Kind: Words, Words: l} }
func start(s string) *Query     { return &Query{Kind: Begin, Words: []string{s}} }
func nigh(a, b string) *Query   { return &Query{Kind: Near, Words: []string{a, b}, Far: 3} }
func both(a, b *Query) *Query   { return &Query{Kind: And, Left: a, Right: b} }
func either(a, b *Query) *Query { return &Query{Kind: Or, Left: a, Right: b} }
func but(a, b *Query) *Query    { return &Query{Kind: Without, Left: a, Right: b} }

// within stands a text in so many parentheses.
func within(n int, s string) string {
	return strings.Repeat("(", n) + s + strings.Repeat(")", n)
}

// show writes a query, with all that it has.
func show(q *Query) string {
	if q == nil {
		return "-"
	}
	return fmt.Sprintf("{%d %q %d %s %s}", q.Kind, q.Words, q.Far, show(q.Left), show(q.Right))
}

// reads fails, unless a text is read as this.
func reads(t *testing.T, s string, want *Query) {
	t.Helper()
	q, err := Parse(s)
	if err != nil || show(q) != show(want) {
		t.Errorf("Parse(%.80q) = %.300s, %v, want %.300s", s, show(q), err, show(want))
	}
}

// fails fails, unless a text is told to be wrong, and no query comes with it.
func fails(t *testing.T, s string, want error) {
	t.Helper()
	if q, err := Parse(s); q != nil || err != want {
		t.Errorf("Parse(%.80q) = %.300s, %v, want %v", s, show(q), err, want)
	}
}

// over is a finder over the tree at root 3 of a pager.
func over(t *testing.T, p *pager.Pager) *finder.Finder {
	t.Helper()
	r, err := tree.At(p, 3)
	if err != nil {
		t.Fatalf("At: %v", err)
	}
	f, err := finder.Over(r)
	if err != nil {
		t.Fatalf("Over: %v", err)
	}
	return f
}

// empty is a finder without a place, and its pager and disk.
func empty(t *testing.T) (*finder.Finder, *pager.Pager, *disk.Disk) {
	t.Helper()
	d := &disk.Disk{}
	p, err := pager.Open(d)
	if err != nil {
		t.Fatalf("Open: %v", err)
	}
	return over(t, p), p, d
}

// noted is a finder in which rows from 1 on have these texts, under the name n.
func noted(t *testing.T, texts ...string) *finder.Finder {
	t.Helper()
	f, _, _ := empty(t)
	for i, s := range texts {
		add(t, f, "n", i+1, s)
	}
	return f
}

// add notes a text.
func add(t *testing.T, f *finder.Finder, name string, row int, s string) {
	t.Helper()
	if err := f.Add(name, row, s); err != nil {
		t.Fatalf("Add(%q, %d, %q): %v", name, row, s, err)
	}
}

// finds fails, unless what a text looks for is found just there.
func finds(t *testing.T, f *finder.Finder, s string, want ...Hit) {
	t.Helper()
	q, err := Parse(s)
	if err != nil {
		t.Errorf("Parse(%q): %v", s, err)
		return
	}
	found(t, f, "n", q, want...)
}

// found fails, unless a query is found just there.
func found(t *testing.T, f *finder.Finder, name string, q *Query, want ...Hit) {
	t.Helper()
	if got, err := Eval(f, name, q); err != nil || !slices.Equal(got, want) {
		t.Errorf("Eval(%q, %.300s) = %v, %v, want %v", name, show(q), got, err, want)
	}
}

// TestParseKinds: 8.1, P5: the numbers of kinds.
func TestParseKinds(t *testing.T) {
	got := []int{Words, Begin, Near, And, Or, Without}
	if !slices.Equal(got, []int{1, 2, 3, 4, 5, 6}) {
		t.Errorf("kinds are %v", got)
	}
}

// TestParseOne: 8.1, P2: each ONE: what it is of, and nothing else.
func TestParseOne(t *testing.T) {
	for s, want := range map[string]*Query{
		"cat":                                  quote("cat"),
		"Cats":                                 quote("cat"),
		"(cat)":                                quote("cat"),
		"((cat))":                              quote("cat"),
		`"cat"`:                                quote("cat"),
		`"Jumping-foxes!"`:                     quote("jump", "foxe"),
		`"the  cat, (and) a* dog"`:             quote("the", "cat", "and", "a", "dog"),
		`"a a a"`:                              quote("a", "a", "a"),
		`" cat "`:                              quote("cat"),
		"cat*":                                 start("cat"),
		"CaTs*":                                start("cats"),
		"jumping*":                             start("jumping"),
		"0*":                                   start("0"),
		"az09AZ*":                              start("az09az"),
		"cat NEAR dog":                         nigh("cat", "dog"),
		"Cats NEAR Jumping":                    nigh("cat", "jump"),
		"cat NEAR cat":                         nigh("cat", "cat"),
		"longerthantwelveletters":              quote("longerthantw"),
		`"longerthantwelveletters"`:            quote("longerthantw"),
		"twelveletter*":                        start("twelveletter"),
		"-cat.":                                quote("cat"),
		"'cats' NEAR dogs,":                    nigh("cat", "dog"),
		"\xff\x80":                             quote("\xff\x80"),
		"caf\u00e9 NEAR \u00c9":                nigh("caf\u00e9", "\u00c9"),
		"\tcat\n":                              quote("cat"),
		"\x00cat":                              quote("cat"),
		"\"\xff (\t\n*) \x00\"":                quote("\xff"),
		strings.Repeat("a", 1<<16):             quote("aaaaaaaaaaaa"),
		strings.Repeat("-", 9999) + "a":        quote("a"),
		`"` + strings.Repeat("-", 9999) + `a"`: quote("a"),
	} {
		reads(t, s, want)
		reads(t, "   "+s+"  ", want)
		reads(t, "("+s+")", want)
		reads(t, "( ( "+s+" ) )", want)
	}
}

// TestParseCut: 8.1: pieces end where others begin, with blanks between or without; a blank is no more than an end.
func TestParseCut(t *testing.T) {
	a, b, c := quote("a"), quote("b"), quote("c")
	for s, want := range map[string]*Query{
		"a b":            both(a, b),
		"a    b":         both(a, b),
		"a(b)":           both(a, b),
		"(a)b":           both(a, b),
		"(a)(b)":         both(a, b),
		`a"b"`:           both(a, b),
		`"a"b`:           both(a, b),
		`"a""b"`:         both(a, b),
		`"a b""b c"`:     both(quote("a", "b"), quote("b", "c")),
		"a*b":            both(start("a"), b),
		"a *b":           both(start("a"), b),
		"a * b":          both(start("a"), b),
		"a  *":           start("a"),
		"a*b*":           both(start("a"), start("b")),
		`a*"b"`:          both(start("a"), b),
		"a*(b)":          both(start("a"), b),
		"(a)OR(b)":       either(a, b),
		`"a"OR"b"`:       either(a, b),
		`"a"NOT"b"`:      but(a, b),
		`"a"AND"b"`:      both(a, b),
		"a*OR b":         either(start("a"), b),
		"a*NOT b":        but(start("a"), b),
		"(a)NOT(b)OR(c)": either(but(a, b), c),
		"aOR b":          both(quote("aor"), b),
		"a ORb":          both(a, quote("orb")),
		"a NEAR b(c)":    both(nigh("a", "b"), c),
		`a NEAR b"c"`:    both(nigh("a", "b"), c),
		"a OR(b c)":      either(a, both(b, c)),
		`a "(b" "c)"`:    both(both(a, b), c),
		`a "b OR c" `:    both(a, quote("b", "or", "c")),
		"(a OR b)c":      both(either(a, b), c),
		"a\tOR":          nil,
		"a\tb":           nil,
		"a\n(b)":         both(a, b),
		"a \t b":         nil,
		"a \xa0 b":       both(both(a, quote("\xa0")), b),
		"a \x00 b":       nil,
	} {
		if want == nil {
			fails(t, s, api.ErrForm)
		} else {
			reads(t, s, want)
		}
	}
}

// TestParseMany: 8.1: AND and NOT hold closer than OR, and all go from the left.
func TestParseMany(t *testing.T) {
	a, b, c, d := quote("a"), quote("b"), quote("c"), quote("d")
	for s, want := range map[string]*Query{
		"a AND b":                    both(a, b),
		"a OR b":                     either(a, b),
		"a NOT b":                    but(a, b),
		"a b c":                      both(both(a, b), c),
		"a AND b c":                  both(both(a, b), c),
		"a b AND c":                  both(both(a, b), c),
		"a OR b OR c":                either(either(a, b), c),
		"a NOT b NOT c":              but(but(a, b), c),
		"a NOT b c":                  both(but(a, b), c),
		"a b NOT c":                  but(both(a, b), c),
		"a NOT b AND c":              both(but(a, b), c),
		"a OR b c":                   either(a, both(b, c)),
		"a b OR c":                   either(both(a, b), c),
		"a OR b AND c OR d":          either(either(a, both(b, c)), d),
		"a b OR c d":                 either(both(a, b), both(c, d)),
		"a OR b NOT c":               either(a, but(b, c)),
		"a NOT b OR c":               either(but(a, b), c),
		"a NOT b OR c NOT d":         either(but(a, b), but(c, d)),
		"a (b c)":                    both(a, both(b, c)),
		"a AND (b OR c) NOT d":       but(both(a, either(b, c)), d),
		"a OR (b OR c)":              either(a, either(b, c)),
		"a NOT (b NOT c)":            but(a, but(b, c)),
		"(a OR b) (c OR d)":          both(either(a, b), either(c, d)),
		"a NEAR b NOT c NEAR d":      but(nigh("a", "b"), nigh("c", "d")),
		"a NEAR b c NEAR d":          both(nigh("a", "b"), nigh("c", "d")),
		"a b NEAR c d":               both(both(a, nigh("b", "c")), d),
		`a* NOT "b c" OR (d) AND a`:  either(but(start("a"), quote("b", "c")), both(d, a)),
		"((a) OR ((b)) AND (c d)) a": both(either(a, both(b, both(c, d))), a),
	} {
		reads(t, s, want)
		reads(t, "("+s+")", want)
	}
}

// signs are the runs that are no words.
func signs() []string { return []string{"AND", "OR", "NOT", "NEAR"} }

// TestParseSigns: 8.1: signs are signs only where they are just so written, and stand alone.
func TestParseSigns(t *testing.T) {
	a, b := quote("a"), quote("b")
	for _, s := range signs() {
		small := strings.ToLower(s)
		w := quote(small)
		for _, c := range []string{small, s[:1] + small[1:], small[:1] + s[1:], s + ".", "-" + s, s + "\t", `"` + s + `"`, "(" + small + ")"} {
			reads(t, c, w)
			reads(t, c+" b", both(w, b))
			reads(t, "a "+c+" b", both(both(a, w), b))
			reads(t, "a AND "+c, both(a, w))
			reads(t, "a OR "+c, either(a, w))
			reads(t, "a NOT "+c, but(a, w))
		}
		reads(t, small+"*", start(small))
		reads(t, s[:1]+small[1:]+"*", start(small))
		reads(t, small+" NEAR b", nigh(small, "b"))
		reads(t, `"a `+s+` b"`, quote("a", small, "b"))
		reads(t, "a"+s+" b", both(quote("a"+small), b))
		reads(t, "a "+s+"b", both(a, quote(small+"b")))
	}
}

// TestParseSignsBehindNear: 8.1: behind NEAR any run is a word.
func TestParseSignsBehindNear(t *testing.T) {
	b := quote("b")
	for _, s := range signs() {
		near := nigh("a", strings.ToLower(s))
		reads(t, "a NEAR "+s, near)
		reads(t, "(a NEAR "+s+")", near)
		reads(t, "a NEAR "+s+" b", both(near, b))
		reads(t, "a NEAR "+s+"(b)", both(near, b))
		reads(t, "a NEAR "+s+" AND b", both(near, b))
		reads(t, "a NEAR "+s+" OR b", either(near, b))
		reads(t, "a NEAR "+s+" NOT b", but(near, b))
		reads(t, "b OR a NEAR "+s, either(b, near))
		fails(t, "a NEAR "+s+" NEAR b", api.ErrForm)
		fails(t, "a NEAR "+s+"*", api.ErrForm)
		fails(t, s+" NEAR a", api.ErrForm)
	}
}

// TestParseSignsWhereTheyMayNotStand: 8.1, P2: no sign begins a ONE.
func TestParseSignsWhereTheyMayNotStand(t *testing.T) {
	for _, s := range signs() {
		for _, c := range []string{
			"%", " % ", "(%)", "% a", "a %", "a AND %", "a OR %", "a NOT %", "(% a)", "(a %)", "a (%) b", "%(a)", "(a)%", `"a"%`, "a*%",
			"%*", "a %*", "a AND %*", "a OR %*", "a NOT %*", "a NEAR %*", "% % a", "a % )", "a % *", "a AND % b", "a OR % b", "a NOT % b", "a OR OR % b",
			`"a" NEAR %`, "a* NEAR %", "(a) NEAR %", "a NEAR b NEAR %",
		} {
			fails(t, strings.ReplaceAll(c, "%", s), api.ErrForm)
		}
	}
}

// TestParseNothing: 8.1: where there is nothing, ErrForm.
func TestParseNothing(t *testing.T) {
	for _, s := range []string{"", " ", "     ", "()", "( )", "(())", "a ()", "() a", "a OR ()", "a NOT ()", `""`, `" "`, "\"-*()\t\"", `a ""`, `"" a`, `("")`, "-", "a -", "- a", "\t", "\x00", "a NEAR -", "- NEAR a", `a NEAR ""`, "-*", strings.Repeat(" ", 1<<16), strings.Repeat("-", 1<<16)} {
		fails(t, s, api.ErrForm)
	}
}

// TestParseForm: 8.1: what is not so: ErrForm.
func TestParseForm(t *testing.T) {
	for _, s := range []string{
		// What does not end, and what ends too soon.
		"(", "((", "(a", "((a)", "a (b", "a (b OR c", "(a OR", "a OR", "a AND", "a NOT", "a NEAR", "(a NEAR)", "(a AND)", "a OR (", `"`, `"a`, `a"`, `"a" "`, `"a" b "c`, `"""`, `a ("b)`,
		// Parentheses that were never opened.
		")", "a)", "(a))", "a) b", ")a(", "a OR b) c", "a NEAR b)",
		// A star without a run.
		"*", "* a", "a OR *", "a AND *", "(*)", "(a)*", `"a"*`, "a**", "a* *", "a NEAR b*", "a NEAR *", "a(*)",
		// Runs of two words, or with a star of what no word begins with.
		"a-b", "don't", "a-b NEAR c", "a NEAR b-c", "a.b c", "a\tb", "a-b*", "-a*", "a-*", "\xff*", "caf\u00e9*", "a_*", "_*", "a\x00*", "a/*", "a:*", "a@*", "a[*", "a`*", "a{*", "thirteenlette*", "THIRTEENLETTE*", strings.Repeat("a", 1<<16) + "*",
		// NEAR of what is no run.
		`a NEAR "b"`, `"a" NEAR b`, "a NEAR (b)", "(a) NEAR b", "a* NEAR b", "a NEAR b NEAR c", "a NEAR", "a NEAR )",
	} {
		fails(t, s, api.ErrForm)
		fails(t, `"x" `+s, api.ErrForm)
		fails(t, "x OR "+s, api.ErrForm)
	}
}

// TestParseBegin: 8.1: of all bytes just letters and digits may stand ahead of a star, at most MaxWord of them.
func TestParseBegin(t *testing.T) {
	for c := range 256 {
		b := byte(c)
		s := "a" + string([]byte{b}) + "*"
		switch {
		case b >= 'a' && b <= 'z' || b >= '0' && b <= '9':
			reads(t, s, start("a"+string([]byte{b})))
		case b >= 'A' && b <= 'Z':
			reads(t, s, start("a"+string([]byte{b + 32})))
		case b == ' ':
			reads(t, s, start("a"))
		default:
			fails(t, s, api.ErrForm)
		}
	}
	for n := 1; n < 40; n++ {
		s := strings.Repeat("s", n)
		if n <= api.MaxWord {
			reads(t, s+"*", start(s))
		} else {
			fails(t, s+"*", api.ErrForm)
		}
	}
}

// TestParseDeep: 8.1, P2: as deep as it may be, and one deeper; what stands side by side stands no deeper.
func TestParseDeep(t *testing.T) {
	a, b := quote("a"), quote("b")
	for n := range 60 {
		s := within(n, "a")
		if n > api.MaxDepth {
			fails(t, s, api.ErrLimit)
			fails(t, "a "+s, api.ErrLimit)
			fails(t, "a OR "+s+" b", api.ErrLimit)
			fails(t, "a NOT "+s, api.ErrLimit)
			fails(t, within(n-1, "a (b)"), api.ErrLimit)
			fails(t, within(n-1, "(a)"), api.ErrLimit)
			continue
		}
		reads(t, s, a)
		reads(t, s+" OR "+within(n, "b"), either(a, b))
		reads(t, strings.Repeat("(a) ", 3)+s, both(both(both(a, a), a), a))
		reads(t, within(n, "a OR b"), either(a, b))
		reads(t, within(n, `"a b"`), quote("a", "b"))
		reads(t, within(n, "a NEAR b"), nigh("a", "b"))
		reads(t, within(n, "a*"), start("a"))
	}
	in := "a"
	q := a
	for range api.MaxDepth {
		in = "b (" + in + " OR b) NOT a"
		q = but(both(b, either(q, b)), a)
	}
	reads(t, in, q)
	fails(t, "("+in+")", api.ErrLimit)
	fails(t, strings.Repeat("(", 1<<20), api.ErrLimit)
	fails(t, within(1<<20, "a"), api.ErrLimit)
}

// TestParseFirst: 8.1, P3: of several errors the first one from the left is told, but that of quotes ahead of all.
func TestParseFirst(t *testing.T) {
	much := within(api.MaxDepth+1, "a")
	open := strings.Repeat("(", api.MaxDepth+1)
	for _, s := range []string{"* ", ") ", "a) ", "OR ", "a OR AND ", "a NEAR ", "a-b ", "a AND NOT ", `"" `, "a-b*", "thirteenlette* ", "a** ", "() ", "(a OR) ", "a NEAR b NEAR c ", "a NEAR b* "} {
		fails(t, s+much, api.ErrForm)
		fails(t, s+open, api.ErrForm)
		fails(t, "b OR "+s+much, api.ErrForm)
	}
	for _, s := range []string{" *", ")", " a)", " OR", " a OR", " a NEAR", " a-b", ` ""`, " a-b*", "a**", " -", " NEAR a", ""} {
		fails(t, open+s, api.ErrLimit)
		fails(t, much+s, api.ErrLimit)
		fails(t, "(a "+much+s, api.ErrLimit)
		fails(t, open+s+`"`, api.ErrForm)
		fails(t, much+s+`"a`, api.ErrForm)
		fails(t, `"a" (`+much+s+`"`, api.ErrForm)
		fails(t, `"`+much+s, api.ErrForm)
	}
	// What stands between quotes opens nothing.
	reads(t, `"a `+open+`"`, quote("a"))
	reads(t, within(api.MaxDepth, `"(a"`), quote("a"))
}

// TestParseLong: 8.1, Limits: long texts: of many words, of many quotes, of a word behind many blanks.
func TestParseLong(t *testing.T) {
	const many = 1 << 17
	for s, kind := range map[string]int{"a ": And, "AND a ": And, "OR a ": Or, "NOT a ": Without, "(a)": And, `"a"`: And, "a*": And, "OR((a))": Or} {
		q, err := Parse("b " + strings.Repeat(s, many))
		if err != nil {
			t.Fatalf("%q: %v", s, err)
		}
		n := 0
		for ; q.Kind == kind; q = q.Left {
			if q.Right == nil || len(q.Right.Words) != 1 || q.Right.Words[0] != "a" {
				t.Fatalf("%q: %s", s, show(q.Right))
			}
			n++
		}
		if n != many || show(q) != show(quote("b")) {
			t.Errorf("%q: %d in one another, then %s", s, n, show(q))
		}
	}
	q, err := Parse(`"` + strings.Repeat("a ", many) + `"`)
	if err != nil || q.Kind != Words || len(q.Words) != many {
		t.Errorf("%d words in quotes: %v", many, err)
	}
	reads(t, strings.Repeat(" ", 1<<20)+"a"+strings.Repeat(" ", 1<<20), quote("a"))
	fails(t, strings.Repeat("a ", many)+")", api.ErrForm)
	fails(t, strings.Repeat("a ", many)+`"`, api.ErrForm)
}
