package parse

import (
	"fmt"
	"reflect"
	"slices"
	"strings"
	"testing"
	"unsafe"

	"concordance/api"
	"concordance/lex"
	"concordance/plain"
)

// die: numbers that look drawn, the same each time.
type die uint64

func (d *die) below(n int) int {
	*d = *d*6364136223846793005 + 1442695040888963407
	return int(uint64(*d>>33) % uint64(n))
}

// pick is one of these.
func (d *die) pick(l ...string) string { return l[d.below(len(l))] }

// grammar is 10.1, with lists and what may be missing written out: alternatives, the shortest one first; > stands ahead of what is one deeper; FEW is the N behind limit. "A column alone" is a COL.
var grammar = rules(`
TEXT = STATEMENT END | STATEMENT ; END
STATEMENT = begin | commit | rollback | create index on NAME ( NAME ) | create table NAME ( COLUMNS ) | drop table NAME | insert into NAME values ROWS | delete from NAME WHERE | update NAME set SETS WHERE | select ITEMS from NAME JOIN WHERE GROUP ORDER LIMIT
COLUMNS = COLUMN | COLUMN , COLUMNS
COLUMN = NAME int | NAME int not null | NAME text | NAME text not null | NAME text words | NAME text not null words
ROWS = ( ES ) | ( ES ) , ROWS
ES = E | E , ES
SETS = NAME = E | NAME = E , SETS
WHERE = | where E
JOIN = | join NAME on E
GROUP = | group by E
ORDER = | order by RANKS
LIMIT = | limit FEW
ITEMS = * | LIST
LIST = ITEM | ITEM , LIST
ITEM = E | count ( * ) | count ( E ) | sum ( E ) | min ( E ) | max ( E )
RANKS = RANK | RANK , RANKS
RANK = rank | rank asc | rank desc | E | E asc | E desc
E = BOTH | BOTH or E
BOTH = NOT | NOT and BOTH
NOT = ASK | not >NOT
ASK = SUM | SUM = SUM | SUM <> SUM | SUM < SUM | SUM <= SUM | SUM > SUM | SUM >= SUM | SUM is null | SUM is not null | COL match S
COL = NAME | NAME . NAME | ( >COL )
SUM = PROD | PROD + SUM | PROD - SUM
PROD = MINUS | MINUS * PROD
MINUS = ONE | - >MINUS
ONE = NAME | NAME . NAME | N | S | null | ( >E )
`)

// rules are a grammar's: of each name its alternatives, of each of them what it is made of.
func rules(s string) map[string][][]string {
	m := map[string][][]string{}
	for line := range strings.Lines(strings.TrimSpace(s)) {
		name, rest, _ := strings.Cut(line, " = ")
		for alternative := range strings.SplitSeq(rest, "|") {
			m[name] = append(m[name], strings.Fields(alternative))
		}
	}
	return m
}

// state is what is looked for where, and how deep.
type state struct {
	what     string
	at, deep int
}

// model goes through tokens by all ways at once.
type model struct {
	tokens []lex.Token
	ends   map[state][]int // where what is looked for may end
	wrong  int             // the furthest token that no way goes over: all ways have ended there
	limit  int             // the first token that is too much (-1: none)
}

// fits says whether a token is what is looked for, and whether it is too much.
func fits(what string, k lex.Token) (fit, much bool) {
	switch what {
	case "END":
		return k.Kind == lex.End, false
	case "NAME":
		return k.Kind == lex.Name && !slices.Contains(strings.Fields(words), k.Text), len(k.Text) > 16
	case "N":
		n := strings.TrimLeft(k.Text, "0")
		return k.Kind == lex.Number, len(n) == 19 && n > "9223372036854775807"
	case "FEW":
		return k.Kind == lex.Number, len(k.Text) > 9
	case "S":
		return k.Kind == lex.String, len(k.Text) > 40 || strings.Contains(k.Text, "\x00")
	}
	return (k.Kind == lex.Name || k.Kind == lex.Mark) && k.Text == what, false
}

// token is where one token ends.
func (m *model) token(s state) []int {
	fit, much := fits(s.what, m.tokens[s.at])
	if !fit {
		m.wrong = max(m.wrong, s.at)
		return nil
	}
	if (much || s.deep > 12) && (m.limit < 0 || s.at < m.limit) {
		m.limit = s.at
	}
	return []int{s.at + 1}
}

// all are the places where what is looked for may end.
func (m *model) all(s state) []int {
	if deeper, ok := strings.CutPrefix(s.what, ">"); ok && grammar[deeper] != nil {
		s = state{deeper, s.at, s.deep + 1}
	}
	if grammar[s.what] == nil {
		return m.token(s)
	}
	if l, ok := m.ends[s]; ok {
		return l
	}
	var l []int
	for _, alternative := range grammar[s.what] {
		now := []int{s.at}
		for _, what := range alternative {
			var next []int
			for _, at := range now {
				next = append(next, m.all(state{what, at, s.deep})...)
			}
			slices.Sort(next)
			now = slices.Compact(next)
		}
		l = append(l, now...)
	}
	slices.Sort(l)
	l = slices.Compact(l)
	m.ends[s] = l
	return l
}

// asked is what 10.1 asks to be told of a text: an error and its place.
func asked(s string) (api.Errno, int) {
	l, err := lex.Split(s)
	if err != nil {
		return plain.Place(err)
	}
	m := &model{tokens: l, ends: map[state][]int{}, limit: -1}
	whole := m.all(state{what: "TEXT"})
	switch {
	case m.limit >= 0:
		return api.ErrLimit, l[m.limit].At
	case len(whole) == 0:
		return api.ErrForm, l[m.wrong].At
	}
	return api.OK, -1
}

// alike fails, unless Parse tells of a text what the grammar asks; it is what was told.
func alike(t *testing.T, s string) api.Errno {
	t.Helper()
	want, place := asked(s)
	x, err := Parse(s)
	if e, at := plain.Place(err); e != want || at != place {
		t.Fatalf("Parse(%.600q): error %d at %d, want %d at %d", s, e, at, want, place)
	}
	if err == nil {
		faithful(t, s, x)
	} else if !reflect.DeepEqual(x, api.Statement{}) {
		t.Fatalf("Parse(%.600q): %s beside an error", s, show(x))
	}
	return want
}

// faithful fails, unless what is printed of a statement says just it, is printed just so, and has blanks where they must be alone.
func faithful(t *testing.T, s string, x api.Statement) {
	t.Helper()
	printed := Print(x)
	y, err := Parse(printed)
	if err != nil || !reflect.DeepEqual(x, y) {
		t.Fatalf("%q is printed %q: %v, %s, want %s", s, printed, err, show(y), show(x))
	}
	if got := spaced(t, printed); got != printed || Print(y) != printed {
		t.Fatalf("%q is printed %q, want blanks as in %q; and then %q", s, printed, got, Print(y))
	}
}

// spaced is a statement with its blanks where they must be.
func spaced(t *testing.T, s string) string {
	t.Helper()
	l, err := lex.Split(s)
	if err != nil {
		t.Fatal(err)
	}
	var b strings.Builder
	last := ""
	for _, k := range l[:len(l)-1] {
		now := k.Text
		if k.Kind == lex.String {
			now = "'" + strings.ReplaceAll(now, "'", "''") + "'"
		}
		call := now == "(" && slices.Contains([]string{"count", "sum", "min", "max"}, last)
		if last != "" && last != "(" && last != "." && now != ")" && now != "," && now != "." && !call {
			b.WriteString(" ")
		}
		b.WriteString(now)
		last = now
	}
	return b.String()
}

// derive writes any text of the grammar: of at most some length, as the shortest alternative is taken beyond it.
func (d *die) derive(what string, left *int) string {
	if deeper := strings.TrimPrefix(what, ">"); grammar[deeper] != nil {
		what = deeper
	}
	if grammar[what] == nil {
		*left--
		return d.terminal(what)
	}
	l := grammar[what]
	n := 0
	if *left > 0 || what == "STATEMENT" {
		n = d.below(len(l))
	}
	var parts []string
	for _, p := range l[n] {
		parts = append(parts, d.derive(p, left))
	}
	return strings.Join(parts, d.pick(" ", " ", " ", "\n", "\t ", "  "))
}

// terminal writes a token.
func (d *die) terminal(what string) string {
	switch what {
	case "END":
		return ""
	case "NAME":
		return d.pick("a", "b", "c", "T", "_1", "Long_name_of_16x", "ranks")
	case "N":
		return d.pick("0", "1", "42", "007", "9223372036854775807")
	case "FEW":
		return d.pick("0", "1", "999999999", "010")
	case "S":
		return d.pick("''", "'x'", "'it''s'", "'from'", "'  '", "'"+strings.Repeat("y", 40)+"'")
	}
	if d.below(8) == 0 {
		return strings.ToUpper(what)
	}
	return what
}

// TestModel: 10.1, 10.2, 10.3: whatever the grammar derives is a statement, and printed faithfully.
func TestModel(t *testing.T) {
	d := die(1)
	kinds := map[int]int{}
	for range 6000 {
		left := d.below(60)
		s := d.derive("TEXT", &left)
		if alike(t, s) == api.OK {
			x, _ := Parse(s)
			kinds[x.Kind]++
		}
	}
	for k := api.Create; k <= api.Rollback; k++ {
		if kinds[k] < 200 {
			t.Errorf("too few statements of kind %d: %v", k, kinds)
		}
	}
}

// anyToken writes a token, often a wrong one.
func (d *die) anyToken() string {
	switch d.below(8) {
	case 0, 1:
		return d.pick(strings.Fields(words)...)
	case 2:
		return d.pick("a", "b", strings.Repeat("x", 16), strings.Repeat("x", 17))
	case 3:
		return d.pick("1", "9223372036854775807", "9223372036854775808", "999999999", "1000000000", "12345678901234567890")
	case 4:
		return d.pick("''", "'x'", "'\x00'", "'"+strings.Repeat("x", 41)+"'", "'")
	}
	return d.pick("<>", "<=", ">=", "<", ">", "=", "+", "-", "*", "(", ")", ",", ".", ";", "!")
}

// TestModelOfWrong: 10.1: statements in which tokens were changed, left out, said twice, put in, or taken from another one; P1: each call ends.
func TestModelOfWrong(t *testing.T) {
	d := die(2)
	told := map[api.Errno]int{}
	other := []string{"begin"}
	for range 30000 {
		left := d.below(40)
		l := strings.Fields(d.derive("TEXT", &left))
		for range 1 + d.below(2) {
			i := d.below(len(l))
			switch d.below(5) {
			case 0:
				l[i] = d.anyToken()
			case 1:
				l = slices.Delete(l, i, i+1)
			case 2:
				l = slices.Insert(l, i, l[d.below(len(l))])
			case 3:
				l = slices.Insert(l, i, d.anyToken())
			case 4:
				l = append(l[:i:i], other[d.below(len(other)):]...)
			}
			if len(l) == 0 {
				l = []string{";"}
			}
		}
		told[alike(t, strings.Join(l, " "))]++
		other = l
	}
	for _, e := range []api.Errno{api.OK, api.ErrForm, api.ErrLimit} {
		if told[e] < 300 {
			t.Errorf("too few texts of one sort: %v", told)
		}
	}
}

// TestModelOfShort: 10.1: all of at most four of these behind where.
func TestModelOfShort(t *testing.T) {
	some := []string{"a", "1", "'x'", "(", ")", "not", "-", "=", "is", "null", "match", "and", ".", "+"}
	var all func(s string, more int)
	all = func(s string, more int) {
		alike(t, s)
		if more == 0 {
			return
		}
		for _, w := range some {
			all(s+" "+w, more-1)
		}
	}
	all("delete from t where", 4)
}

// TestModelOfDepth: 10.1: (, not and - in each other, any of them, around MaxDepth.
func TestModelOfDepth(t *testing.T) {
	d := die(3)
	told := map[api.Errno]int{}
	for range 5000 {
		var open, shut string
		for range 9 + d.below(6) {
			s := d.pick("(", "not ", "- ", "(", "a + (", "a and not ", "a * - ", "(a) = (", "a is null or (")
			open += s
			if strings.HasSuffix(s, "(") {
				shut += d.pick(")", ")", ") + 1", ") is null", " = 1)")
			}
		}
		told[alike(t, "delete from t where "+open+d.pick("a", "1", "t.a", "(a)", "- a", "a match 'x'", "")+shut)]++
	}
	if told[api.OK] < 100 || told[api.ErrLimit] < 100 || told[api.ErrForm] < 100 {
		t.Errorf("too few texts of one sort: %v", told)
	}
}

// tree is any expression, at most so deep.
func (d *die) tree(deep int) *api.Expr {
	if deep <= 0 || d.below(5) == 0 {
		switch d.below(4) {
		case 0:
			return num(int64(d.below(10)))
		case 1:
			return []*api.Expr{null(), str("x"), str("it's"), str("")}[d.below(4)]
		}
		return col(d.pick("a", "b", "t.a"))
	}
	switch code := api.Neg + d.below(api.Match-api.Neg+1); code {
	case api.Match:
		return found(col(d.pick("a", "t.b")), d.pick("x", "", "it's"))
	case api.Neg, api.Not, api.IsNull:
		return one(code, d.tree(deep-1))
	default:
		return two(code, d.tree(deep-1), d.tree(deep-1))
	}
}

// written is a value as it stands in a statement.
func written(v api.Value) string {
	switch v.Kind {
	case api.Int:
		return fmt.Sprint(v.Num)
	case api.Text:
		return "'" + strings.ReplaceAll(v.Text, "'", "''") + "'"
	}
	return "null"
}

// full writes an expression with ( and ) around each part, and around some of them twice: whatever it means, it does not hang on what holds tighter.
func (d *die) full(e *api.Expr) string {
	s := ""
	switch e.Code {
	case api.Lit:
		s = written(e.Value)
	case api.Col:
		s = e.Name
	case api.Neg:
		s = "-" + d.full(e.Left)
	case api.Not:
		s = "not " + d.full(e.Left)
		if e.Left.Code == api.IsNull && d.below(2) == 0 {
			s = d.full(e.Left.Left) + "is not null"
		}
	case api.IsNull:
		s = d.full(e.Left) + " is null"
	case api.Match:
		s = d.full(e.Left) + "match" + written(e.Value)
	default:
		s = d.full(e.Left) + signs[e.Code] + d.full(e.Right)
	}
	if d.below(9) == 0 {
		s = "(" + s + ")"
	}
	return "(" + s + ")"
}

// TestModelOfTrees: 10.2, 10.3: whatever is said with all ( and ) is just that expression, and printed with those alone that must be: without any two of them it says something else, or nothing.
func TestModelOfTrees(t *testing.T) {
	d := die(4)
	trees, pairs := 0, 0
	for range 20000 {
		e := d.tree(d.below(4))
		text := d.full(e)
		if n, _ := asked("delete from t where " + text); n == api.ErrLimit {
			continue // too long, or too deep
		}
		trees++
		got := where(t, text)
		if !reflect.DeepEqual(got, e) {
			t.Fatalf("%q is %s, want %s", text, tree(got), tree(e))
		}
		printed := Expr(e)
		if again := where(t, printed); !reflect.DeepEqual(again, e) {
			t.Fatalf("%s is printed %q, which is %s", tree(e), printed, tree(again))
		}
		if got := spaced(t, printed); got != printed {
			t.Fatalf("%q, want blanks as in %q", printed, got)
		}
		for _, less := range fewer(t, printed) {
			pairs++
			if x, err := Parse("delete from t where " + less); err == nil && reflect.DeepEqual(x.Where, e) {
				t.Fatalf("%s is printed %q, but %q says the same", tree(e), printed, less)
			}
		}
	}
	if trees < 10000 || pairs < 5000 {
		t.Errorf("only %d expressions, with %d pairs of ( and )", trees, pairs)
	}
}

// fewer are the texts that an expression is without one ( and its ).
func fewer(t *testing.T, s string) []string {
	t.Helper()
	l, err := lex.Split(s)
	if err != nil {
		t.Fatal(err)
	}
	var out []string
	var open []int
	for _, k := range l {
		switch {
		case k.Kind != lex.Mark:
		case k.Text == "(":
			open = append(open, k.At)
		case k.Text == ")":
			at := open[len(open)-1]
			open = open[:len(open)-1]
			out = append(out, s[:at]+" "+s[at+1:k.At]+" "+s[k.At+1:])
		}
	}
	return out
}

// TestAnyBytes: P1: whatever bytes there are, Parse ends, without a panic.
func TestAnyBytes(t *testing.T) {
	d := die(5)
	for range 20000 {
		left := d.below(30)
		b := []byte(d.derive("TEXT", &left))
		for range 1 + d.below(3) {
			if len(b) > 0 {
				b[d.below(len(b))] = byte(d.below(256))
			}
		}
		alike(t, string(b))
	}
}

// TestPrintsAnything: P1: what Parse never told is printed somehow: the call ends, without a panic.
func TestPrintsAnything(t *testing.T) {
	d := die(6)
	var any func(deep int) *api.Expr
	any = func(deep int) *api.Expr {
		if deep == 0 || d.below(4) == 0 {
			return nil
		}
		return &api.Expr{Code: d.below(22) - 2, Value: api.Value{Kind: d.below(5) - 1, Num: -1, Text: "'"}, Name: "x", Left: any(deep - 1), Right: any(deep - 1)}
	}
	for range 20000 {
		Expr(any(5))
		e := any(3)
		Print(api.Statement{Kind: d.below(14) - 2, Rows: [][]*api.Expr{nil, {e, nil}}, Sets: []*api.Expr{e, nil}, Where: e, On: e, Group: any(2), Other: d.pick("", "u"),
			Items: []api.Item{{Of: d.below(8) - 2, Expr: e}}, Order: []api.Rank{{Expr: e}}, Columns: []api.Column{{Kind: d.below(5) - 1, Must: true, Words: true}}, Limit: d.below(5) - 2})
	}
	Print(api.Statement{})
}

// TestDeepTrees: P1, Limits: 2^16 parts nested in one another, on the left and on the right.
func TestDeepTrees(t *testing.T) {
	const many = 1 << 16
	nested := func(within func(e *api.Expr) *api.Expr) string {
		e := col("a")
		for range many {
			e = within(e)
		}
		return Expr(e)
	}
	for code, want := range map[int]string{
		api.Not:    strings.Repeat("not ", many) + "a",
		api.Neg:    strings.Repeat("- ", many) + "a",
		api.IsNull: strings.Repeat("(", many-1) + "a" + strings.Repeat(" is null)", many-1) + " is null",
	} {
		if got := nested(func(e *api.Expr) *api.Expr { return one(code, e) }); got != want {
			t.Errorf("code %d: %.60q .. (%d bytes), want %.60q .. (%d bytes)", code, got, len(got), want, len(want))
		}
	}
	left := nested(func(e *api.Expr) *api.Expr { return two(api.Or, e, col("b")) })
	if left != "a"+strings.Repeat(" or b", many) {
		t.Errorf("%.60q .. (%d bytes)", left, len(left))
	}
	right := nested(func(e *api.Expr) *api.Expr { return two(api.Or, col("b"), e) })
	if right != strings.Repeat("b or (", many-1)+"b or a"+strings.Repeat(")", many-1) {
		t.Errorf("%.60q .. (%d bytes)", right, len(right))
	}
}

// TestLongTexts: P1, Limits: long texts are told to be wrong where they are.
func TestLongTexts(t *testing.T) {
	const many = 1 << 22
	fails(t, api.ErrLimit, "drop table ^"+strings.Repeat("x", many))
	fails(t, api.ErrLimit, "delete from t where ^'"+strings.Repeat("x", many)+"'")
	fails(t, api.ErrLimit, strings.Repeat("(", api.MaxWords)+"^"+strings.Repeat("(", many))
	reads(t, strings.Repeat(" ", many)+"begin"+strings.Repeat("\n", many))
}

// TestKeepsNothing: P4: no memory of what is handed in is kept, and it is not written into.
func TestKeepsNothing(t *testing.T) {
	const text = "select aa, count(t.bb) from tt join uu on aa = 'some text' where cc match 'it''s' and not (dd is null) order by rank, ee desc limit 12"
	want := show(reads(t, text))
	b := []byte(text)
	x, err := Parse(unsafe.String(&b[0], len(b)))
	if err != nil || string(b) != text {
		t.Fatalf("%v, %q", err, b)
	}
	for i := range b {
		b[i] = '!'
	}
	if got := show(x); got != want {
		t.Errorf("%s, want %s", got, want)
	}
	name := []byte("name")
	lent := unsafe.String(&name[0], len(name))
	printed := []string{Expr(col(lent)), Literal(str(lent).Value), Print(api.Statement{Kind: api.Drop, Table: lent})}
	clear(name)
	if !slices.Equal(printed, []string{"name", "'name'", "drop table name"}) {
		t.Errorf("%q", printed)
	}
}

// TestAnswersAreFresh: P4: what comes out is the caller's: no two lists share memory, with what stands behind their lengths; what a text is told hangs on the text alone.
func TestAnswersAreFresh(t *testing.T) {
	const rows, table = "insert into t values (1, 2, 3), (4, 5, 6), (7)", "create table t (a int, b int, c text)"
	want, wantTable := show(reads(t, rows)), show(reads(t, table))
	x, y := reads(t, rows), reads(t, rows)
	for _, l := range x.Rows {
		for len(l) < cap(l) {
			l = append(l, col("behind"))
		}
	}
	clear(x.Rows[0])
	if got, want := show(x), strings.Replace(want, "row 1 2 3", "row nil nil nil", 1); got != want {
		t.Errorf("two rows share memory: %s, want %s", got, want)
	}
	clear(x.Rows[:cap(x.Rows)])
	if got := show(y); got != want {
		t.Errorf("two answers share memory: %s, want %s", got, want)
	}
	c, e := reads(t, table), reads(t, table)
	clear(c.Columns[:cap(c.Columns)])
	if got := show(e); got != wantTable {
		t.Errorf("two answers share memory: %s, want %s", got, wantTable)
	}
	_, err := Parse("begin x")
	err.(*api.At).Place = 99
	fails(t, api.ErrForm, "begin ^x")
	if got := show(reads(t, rows)); got != want {
		t.Errorf("asked again: %s, want %s", got, want)
	}
}
