package plan

import (
	"math"
	"slices"
	"strings"
	"testing"
	"unsafe"

	"concordance/api"
	"concordance/catalog"
	"concordance/parse"
)

// where is a condition, as Parse tells it; of the empty text none.
func where(t *testing.T, s string) *api.Expr {
	t.Helper()
	if s == "" {
		return nil
	}
	x, err := parse.Parse("delete from t where " + s)
	if err != nil {
		t.Fatalf("Parse(%q): %v", s, err)
	}
	return x.Where
}

// entry is a table t of the columns a (int), b (text, words), c (int), d (text), with these indexes.
func entry(indexes ...string) catalog.Entry {
	return catalog.Entry{Id: 1, Next: 1, Table: api.Table{Name: "t", Columns: []api.Column{
		{Name: "a", Kind: api.Int}, {Name: "b", Kind: api.Text, Words: true}, {Name: "c", Kind: api.Int}, {Name: "d", Kind: api.Text},
	}, Indexes: indexes}}
}

// shown is a plan as a text: what is not there is -.
func shown(p Plan) string {
	bound := func(v *api.Value) string {
		if v == nil {
			return "-"
		}
		return parse.Literal(*v)
	}
	kind := "?"
	if p.Kind >= Scan && p.Kind <= Words {
		kind = []string{"scan", "index", "words"}[p.Kind]
	}
	return strings.Join([]string{kind, p.Column, bound(p.Low), bound(p.High), p.Text}, "|")
}

// scan is the plan of all rows.
const scan = "scan||-|-|"

// TestKinds: 14: the kinds are from 0 on.
func TestKinds(t *testing.T) {
	if Scan != 0 || Index != 1 || Words != 2 {
		t.Errorf("%d, %d, %d", Scan, Index, Words)
	}
}

// TestSafe: 14.1: what is Safe, each way alone, and one in the other.
func TestSafe(t *testing.T) {
	for _, s := range []string{
		"",
		"1", "0", "null", "9223372036854775807",
		"b match 'cat'", "t.b match 'x y'", "a match '\"'",
		"a is null", "b is null", "'x' is null", "null is null", "1 is null", "(a is null) is null", "(a = 1) is null", "(b match 'x') is null", "(not 1) is null",
		"not 1", "not null", "not a = 1", "not not b is null", "not (a = 1 or b = 'x')", "not b match 'x'",
		"1 and 1", "1 or null", "a = 1 and b = 'x'", "a = 1 or b match 'x' and not c is null",
		"a = b", "a <> 1", "1 < a", "a <= null", "null > a", "a >= 'x'", "'x' = 'y'", "1 = 1", "b = 1",
		"(a = b) = c", "c = (a = b)", "(a = 1) = (b = 2)", "(a is null) < (b match 'x')", "(1 and 0) >= a", "(not 1) <> 'x'", "a is not null", "(a = 1 and c = 2) = 1",
	} {
		if !Safe(where(t, s)) {
			t.Errorf("%s is not Safe", s)
		}
	}
}

// TestNotSafe: 14.1: these alone: a text and a column may not be asked to hold, and what is counted is never Safe, whatever stands around it.
func TestNotSafe(t *testing.T) {
	for _, s := range []string{
		"'x'", "''", "'1'", "a", "b", "t.a", "u.x",
		"- 1", "- a", "1 + 1", "1 - 1", "1 * 1", "a + 1", "- null", "null + null",
		"not a", "not 'x'", "not - 1", "not (1 + 1)", "not not a",
		"a and 1", "1 and a", "a or 1", "1 or a", "'x' and 1", "1 or 'x'", "a and b", "1 and 1 + 1", "1 or - 1", "a = 1 and b = 2 and c", "c and a = 1",
		"(a + 1) is null", "(- a) is null", "(not a) is null", "(a and 1) is null", "(1 or 'x') is null", "(a + 1) is not null",
		"a + 1 = 2", "2 = a + 1", "- a < 1", "a <> - 1", "1 <= 1 * 1", "a >= 1 - 1", "a > - 1",
		"(not a) = 1", "1 = (not 'x')", "(a or b) = 1", "1 <> (a and b)", "(a = b + 1) = 1", "(a = b) = (c = - 1)",
		"not a = - 1", "a = 1 or not c", "b match 'x' and a", "b match 'x' or a + 1 = 2",
	} {
		if Safe(where(t, s)) {
			t.Errorf("%s is Safe", s)
		}
	}
}

// TestSafeStrange: P1: of what Parse never tells nothing but true or false comes out.
func TestSafeStrange(t *testing.T) {
	for code := -2; code < 25; code++ {
		for _, left := range []*api.Expr{nil, {}, {Code: code}, {Code: api.Lit}} {
			e := &api.Expr{Code: code, Left: left, Right: left}
			Safe(e)
			Safe(&api.Expr{Code: api.IsNull, Left: e})
			Choose(entry("a", "b"), e)
		}
	}
	for _, code := range []int{0, -1, api.Match + 1, math.MinInt, math.MaxInt} {
		if Safe(&api.Expr{Code: code}) {
			t.Errorf("an expression of code %d is Safe", code)
		}
	}
}

// TestChooseScan: 14.2: all rows: nothing is asked, what is asked may be an error, or no index and no words answer it.
func TestChooseScan(t *testing.T) {
	for _, s := range []string{
		"", "1", "null", "'x'", "a", "b",
		"a = 1 and c", "c and a = 1", "a = 1 and a + 1 = 2", "b match 'x' and - a = 1", "a = - 1", "a = 1 and 'x'", "b match 'x' and not c",
		"c = 1", "d = 'x'", "1 < c", "c > 1 and d <= 'x'", "t.c = 1", "t.d = 'x'",
		"a <> 1", "1 <> a", "a <> 1 and a <> 2", "b <> 'x'", "t.a <> 1",
		"a = null", "null = a", "a < null", "null >= a", "b = null", "t.b > null",
		"a is null", "a is not null", "not a = 1", "not not a = 1", "a = 1 or a = 2", "a = 1 or b match 'x'", "not b match 'x'", "not (a = 1 and b match 'x')", "b match 'x' or b match 'y'",
		"a = a", "a = c", "a < b", "1 = 1", "1 < 2", "(a = 1) = 1", "1 = (a = 1)", "(a = 1) is null", "(b match 'x') = 1", "(b match 'x') is null",
		"u.a = 1", "tt.a = 1", "a.a = 1", "u.b match 'x'", "1 < u.a", "x = 1", "t.x = 1", "x match 'y'", "t.x match 'y'", "a.t = 1",
	} {
		if got := shown(Choose(entry("a", "b"), where(t, s))); got != scan {
			t.Errorf("%s: %s", s, got)
		}
	}
}

// TestChoose: 14.2: by which part rows are found, from which value to which one, and by which column.
func TestChoose(t *testing.T) {
	for _, c := range []struct{ where, want string }{
		// One part alone, either way round, with the table's name and without.
		{"a = 1", "index|a|1|1|"},
		{"1 = a", "index|a|1|1|"},
		{"t.a = 1", "index|a|1|1|"},
		{"1 = t.a", "index|a|1|1|"},
		{"a = 'x'", "index|a|'x'|'x'|"},
		{"b = 'it''s'", "index|b|'it''s'|'it''s'|"},
		{"b = ''", "index|b|''|''|"},
		{"a = 0", "index|a|0|0|"},
		{"a < 1", "index|a|-|1|"},
		{"a <= 1", "index|a|-|1|"},
		{"a > 1", "index|a|1|-|"},
		{"a >= 1", "index|a|1|-|"},
		{"1 < a", "index|a|1|-|"},
		{"1 <= a", "index|a|1|-|"},
		{"1 > a", "index|a|-|1|"},
		{"1 >= a", "index|a|-|1|"},
		{"'x' >= t.b", "index|b|-|'x'|"},
		{"t.b > 7", "index|b|7|-|"},
		{"b match 'cat'", "words|b|-|-|cat"},
		{"t.b match 'cat OR dog'", "words|b|-|-|cat OR dog"},
		{"c match 'cat'", "words|c|-|-|cat"},
		{"b match ''", "words|b|-|-|"},
		// The first part that asks for one value goes ahead of all, wherever it stands.
		{"b match 'cat' and a = 1", "index|a|1|1|"},
		{"a = 1 and b match 'cat'", "index|a|1|1|"},
		{"a > 5 and b match 'cat' and 3 = a", "index|a|3|3|"},
		{"a = 1 and a = 2", "index|a|1|1|"},
		{"b = 'x' and a = 2", "index|b|'x'|'x'|"},
		{"a > 1 and b = 'x'", "index|b|'x'|'x'|"},
		{"a = null and a = 2", "index|a|2|2|"},
		{"c = 1 and a = 2", "index|a|2|2|"},
		{"u.a = 1 and a = 2", "index|a|2|2|"},
		{"(c = 1 and (d = 'x' and (b = 'y' and a = 2)))", "index|b|'y'|'y'|"},
		// Then what is looked for, the first of it.
		{"a > 1 and b match 'cat'", "words|b|-|-|cat"},
		{"b match 'cat' and b match 'dog'", "words|b|-|-|cat"},
		{"u.b match 'cat' and b match 'dog'", "words|b|-|-|dog"},
		{"(b match 'a' or b match 'b') and d match 'c'", "words|d|-|-|c"},
		{"a <> 1 and a < 3 and t.b match 'dog'", "words|b|-|-|dog"},
		{"a = null and b match 'dog'", "words|b|-|-|dog"},
		{"not a = 1 and b match 'dog'", "words|b|-|-|dog"},
		{"c = 1 and b match 'dog'", "words|b|-|-|dog"},
		// Then the column that is asked first: the first low one, and the first high one.
		{"a > 1 and a < 5", "index|a|1|5|"},
		{"a < 5 and a > 1", "index|a|1|5|"},
		{"5 > a and 1 < t.a", "index|a|1|5|"},
		{"a >= 1 and a <= 5 and a > 2 and a < 4", "index|a|1|5|"},
		{"a > 2 and a > 1", "index|a|2|-|"},
		{"a < 2 and a < 1", "index|a|-|2|"},
		{"a > 5 and a < 1", "index|a|5|1|"},
		{"b > 'x' and a > 1 and b < 'z'", "index|b|'x'|'z'|"},
		{"a > 1 and b > 'x' and b < 'z'", "index|a|1|-|"},
		{"a > 1 and b > 'x' and a < 'z'", "index|a|1|'z'|"},
		{"b < 'z' and a > 1", "index|b|-|'z'|"},
		{"c > 1 and a > 2", "index|a|2|-|"},
		{"a > null and a > 2 and a < null", "index|a|2|-|"},
		{"a <> 7 and a > 2 and (a < 3 or a < 4)", "index|a|2|-|"},
		{"1 and a > 2 and null", "index|a|2|-|"},
		{"a > 9223372036854775807", "index|a|9223372036854775807|-|"},
	} {
		if got := shown(Choose(entry("a", "b"), where(t, c.where))); got != c.want {
			t.Errorf("%s: %s, want %s", c.where, got, c.want)
		}
	}
}

// TestChooseIndexes: 14.2: a column asks only if it has an index.
func TestChooseIndexes(t *testing.T) {
	const s = "c > 1 and a < 2 and 'x' <= d and b >= 'y'"
	for _, c := range []struct {
		indexes []string
		want    string
	}{
		{nil, scan},
		{[]string{"a"}, "index|a|-|2|"},
		{[]string{"b"}, "index|b|'y'|-|"},
		{[]string{"c"}, "index|c|1|-|"},
		{[]string{"d"}, "index|d|'x'|-|"},
		{[]string{"a", "b", "c", "d"}, "index|c|1|-|"},
		{[]string{"b", "a"}, "index|a|-|2|"},
		{[]string{"x", "t.a", ""}, scan},
	} {
		if got := shown(Choose(entry(c.indexes...), where(t, s))); got != c.want {
			t.Errorf("indexes %q: %s, want %s", c.indexes, got, c.want)
		}
	}
	for _, c := range []struct{ where, want string }{{"b match 'cat' and a = 1", "words|b|-|-|cat"}, {"a = 1", scan}} {
		if got := shown(Choose(entry(), where(t, c.where))); got != c.want {
			t.Errorf("%s without indexes: %s, want %s", c.where, got, c.want)
		}
	}
}

// TestChooseStrange: P1: whatever table it is, and of what Parse never tells.
func TestChooseStrange(t *testing.T) {
	col := func(s string) *api.Expr { return &api.Expr{Code: api.Col, Name: s} }
	one := &api.Expr{Code: api.Lit, Value: api.Value{Kind: api.Int, Num: 1}}
	eq := func(a, b *api.Expr) *api.Expr { return &api.Expr{Code: api.Eq, Left: a, Right: b} }
	e := entry("a")
	for _, x := range []*api.Expr{eq(nil, nil), eq(col("a"), nil), eq(nil, col("a")), eq(nil, one), {Code: api.Match}, {Code: api.Match, Left: one}, eq(&api.Expr{Code: api.Lit, Name: "a"}, one), {Code: api.Match, Left: &api.Expr{Code: api.Lit, Name: "a"}}, {Code: api.And}, {Code: api.And, Left: eq(nil, nil)}} {
		if got := shown(Choose(e, x)); got != scan {
			t.Errorf("%s", got)
		}
	}
	if got := shown(Choose(catalog.Entry{}, eq(col("a"), one))); got != scan {
		t.Errorf("of no table: %s", got)
	}
	// A table without a name has its point still.
	nameless := catalog.Entry{Table: api.Table{Columns: []api.Column{{Name: "a"}}, Indexes: []string{"a"}}}
	if got := shown(Choose(nameless, eq(col(".a"), one))); got != "index|a|1|1|" {
		t.Errorf("of a table without a name: %s", got)
	}
	// Where a column's name looks like another one's, with the table's name ahead, that other one is asked.
	e.Table.Columns = append(e.Table.Columns, api.Column{Name: "t.a"}, api.Column{Name: "t.x"})
	e.Table.Indexes = []string{"a", "t.a", "t.x"}
	for name, want := range map[string]string{"t.a": "a", "t.x": "t.x", "t.t.a": "t.a", "a": "a"} {
		if got := shown(Choose(e, eq(col(name), one))); got != "index|"+want+"|1|1|" {
			t.Errorf("%s: %s", name, got)
		}
	}
}

// TestDeep: P1, Limits: conditions with many parts in one another.
func TestDeep(t *testing.T) {
	ask := where(t, "a > 3")
	left, right, nots := ask, ask, ask
	for range 1 << 15 {
		left = &api.Expr{Code: api.And, Left: left, Right: ask}
		right = &api.Expr{Code: api.And, Left: ask, Right: right}
		nots = &api.Expr{Code: api.Not, Left: nots}
	}
	for _, e := range []*api.Expr{left, right} {
		if got := shown(Choose(entry("a"), e)); got != "index|a|3|-|" || !Safe(e) {
			t.Errorf("%s", got)
		}
	}
	if got := shown(Choose(entry("a"), nots)); got != scan || !Safe(nots) {
		t.Errorf("%s", got)
	}
}

// scrawl writes over a text's memory.
func scrawl(s string) {
	for i := range len(s) {
		unsafe.Slice(unsafe.StringData(s), len(s))[i] = '!'
	}
}

// own is a text in memory of its own, which may be written into.
func own(s string) string { return string([]byte(s)) }

// TestPlansAreFresh: P4: a plan shares no memory with the condition, with the table, or with itself; neither of them is written into.
func TestPlansAreFresh(t *testing.T) {
	for _, c := range []struct {
		code int
		want string
	}{{api.Eq, "index|column|'some text'|'some text'|"}, {api.Le, "index|column|-|'some text'|"}, {api.Ge, "index|column|'some text'|-|"}, {api.Match, "words|column|-|-|some text"}} {
		name, column, index, col, text := own("table"), own("column"), own("column"), own("table.column"), own("some text")
		e := catalog.Entry{Table: api.Table{Name: name, Columns: []api.Column{{Name: column}}, Indexes: []string{index}}}
		x := &api.Expr{Code: c.code, Left: &api.Expr{Code: api.Col, Name: col}}
		v := api.Value{Kind: api.Text, Text: text}
		if c.code == api.Match {
			x.Value = v
		} else {
			x.Right = &api.Expr{Code: api.Lit, Value: v}
		}
		p, again := Choose(e, x), Choose(e, x)
		if name != "table" || column != "column" || index != "column" || col != "table.column" || text != "some text" || x.Code != c.code || !slices.Equal(e.Table.Indexes, []string{"column"}) {
			t.Errorf("%v, %v", e, x)
		}
		for _, s := range []string{name, column, index, col, text} {
			scrawl(s)
		}
		if shown(p) != c.want || shown(again) != c.want {
			t.Errorf("%s, %s, want %s", shown(p), shown(again), c.want)
		}
		if p.Low != nil && p.High != nil {
			scrawl(p.Low.Text)
			*p.Low = api.Value{}
		}
		scrawl(p.Column)
		if p.High != nil && p.High.Text != "some text" || shown(again) != c.want {
			t.Errorf("%s, %s: memory is shared", shown(p), shown(again))
		}
	}
}
