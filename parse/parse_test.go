package parse

import (
	"errors"
	"fmt"
	"reflect"
	"strings"
	"testing"

	"concordance/api"
	"concordance/lex"
	"concordance/plain"
)

// marked is a text without its ^, which no statement has, and where it stood.
func marked(t *testing.T, s string) (string, int) {
	t.Helper()
	a, b, ok := strings.Cut(s, "^")
	if !ok {
		t.Fatalf("%q: no ^ in it", s)
	}
	return a + b, len(a)
}

// fails fails, unless a text is told to be wrong at its ^, by an At, and no statement comes with it.
func fails(t *testing.T, want api.Errno, text string) {
	t.Helper()
	s, place := marked(t, text)
	x, err := Parse(s)
	var a *api.At
	if !errors.As(err, &a) || *a != (api.At{Err: want, Place: place}) {
		t.Errorf("Parse(%.300q): %v (%v), want error %d at %d", s, err, a, want, place)
	}
	if e, at := plain.Place(err); e != want || at != place {
		t.Errorf("Parse(%.300q): error %d at %d, want %d at %d", s, e, at, want, place)
	}
	if !reflect.DeepEqual(x, api.Statement{}) {
		t.Errorf("Parse(%.300q): %v beside an error", s, x)
	}
}

// reads is the statement that a text is.
func reads(t *testing.T, s string) api.Statement {
	t.Helper()
	x, err := Parse(s)
	if err != nil {
		e, at := plain.Place(err)
		t.Fatalf("Parse(%.300q): error %d at %d", s, e, at)
	}
	return x
}

// says fails, unless a text is this statement, whatever is not told being zero, and printed so, and what is printed is this statement, too.
func says(t *testing.T, text, printed string, want api.Statement) {
	t.Helper()
	for _, s := range []string{text, text + ";", " " + text + "\n;\t", printed, printed + ";"} {
		x := reads(t, s)
		if !reflect.DeepEqual(x, want) {
			t.Errorf("Parse(%q) = %s, want %s", s, show(x), show(want))
		}
		if got := Print(x); got != printed {
			t.Errorf("Print of %q: %q, want %q", s, got, printed)
		}
	}
	fails(t, api.ErrForm, text+"; ^;")
	fails(t, api.ErrForm, text+";^begin")
	fails(t, api.ErrForm, text+" ^begin")
	fails(t, api.ErrForm, text+" ^)")
}

// show writes a statement, with its expressions.
func show(x api.Statement) string {
	var b strings.Builder
	fmt.Fprintf(&b, "kind %d table %q other %q name %q columns %v limit %d", x.Kind, x.Table, x.Other, x.Name, x.Columns, x.Limit)
	for _, l := range x.Rows {
		b.WriteString(" row")
		for _, e := range l {
			b.WriteString(" " + tree(e))
		}
	}
	for _, e := range x.Sets {
		b.WriteString(" set " + tree(e))
	}
	b.WriteString(" on " + tree(x.On) + " where " + tree(x.Where))
	for _, i := range x.Items {
		fmt.Fprintf(&b, " item %d %s", i.Of, tree(i.Expr))
	}
	b.WriteString(" group " + tree(x.Group))
	for _, r := range x.Order {
		fmt.Fprintf(&b, " order %s %v", tree(r.Expr), r.Down)
	}
	return b.String()
}

// Expressions, written short.
func col(s string) *api.Expr { return &api.Expr{Code: api.Col, Name: s} }
func num(n int64) *api.Expr {
	return &api.Expr{Code: api.Lit, Value: api.Value{Kind: api.Int, Num: n}}
}
func str(s string) *api.Expr {
	return &api.Expr{Code: api.Lit, Value: api.Value{Kind: api.Text, Text: s}}
}
func null() *api.Expr                     { return &api.Expr{Code: api.Lit} }
func one(code int, e *api.Expr) *api.Expr { return &api.Expr{Code: code, Left: e} }
func two(code int, a, b *api.Expr) *api.Expr {
	return &api.Expr{Code: code, Left: a, Right: b}
}
func found(e *api.Expr, s string) *api.Expr {
	return &api.Expr{Code: api.Match, Left: e, Value: api.Value{Kind: api.Text, Text: s}}
}

// TestWordsAlone: 10.1, 10.2, 10.3: statements of one word.
func TestWordsAlone(t *testing.T) {
	says(t, "begin", "begin", api.Statement{Kind: api.Begin, Limit: -1})
	says(t, "COMMIT", "commit", api.Statement{Kind: api.Commit, Limit: -1})
	says(t, "\tRollBack", "rollback", api.Statement{Kind: api.Rollback, Limit: -1})
	fails(t, api.ErrForm, "begin ^commit")
	fails(t, api.ErrForm, "begin ^x")
	fails(t, api.ErrForm, "commit ^1")
	fails(t, api.ErrForm, "rollback ^'x'")
}

// TestNoStatement: 10.1: texts that begin no statement; the End is a token, too.
func TestNoStatement(t *testing.T) {
	for _, s := range []string{"^", " \n^", "^;", "^; begin", "^a", "^beginn", "^begi n", "^'begin'", "^1", "^(begin)", "^*", "^table t", "^index", "^where a", "^from t", "^values (1)", "^and", "^rank", "^_begin", "^-", "^null",
		"^" + strings.Repeat("x", api.MaxName+1), "^9223372036854775808", "^'" + strings.Repeat("x", api.MaxLetter+1) + "'"} {
		fails(t, api.ErrForm, s)
	}
}

// TestCreateIndex: 10.1, 10.2, 10.3.
func TestCreateIndex(t *testing.T) {
	says(t, "create index on t (a)", "create index on t (a)", api.Statement{Kind: api.Index, Table: "t", Name: "a", Limit: -1})
	says(t, "CREATE INDEX ON Tt(_A1)", "create index on tt (_a1)", api.Statement{Kind: api.Index, Table: "tt", Name: "_a1", Limit: -1})
	for _, s := range []string{"create^", "create ^a", "create ^on", "create ^drop", "create ^'table'", "create index^", "create index ^t", "create index on^", "create index on ^(a)", "create index on t^", "create index on t ^a", "create index on t(^)", "create index on t(a^", "create index on t (a^, b)", "create index on t (a^.b)", "create index on t^.a (a)", "create index on t (^1)", "create index on t (^'a')", "create index on t (^(a))"} {
		fails(t, api.ErrForm, s)
	}
}

// TestCreateTable: 10.1, 10.2, 10.3: columns of each sort, with all that may be missing and without.
func TestCreateTable(t *testing.T) {
	says(t, "create table t (a int)", "create table t (a int)",
		api.Statement{Kind: api.Create, Table: "t", Columns: []api.Column{{Name: "a", Kind: api.Int}}, Limit: -1})
	says(t, "create table T(a INT not NULL,b text,c text NOT null,d text words,E text not null words,a int)",
		"create table t (a int not null, b text, c text not null, d text words, e text not null words, a int)",
		api.Statement{Kind: api.Create, Table: "t", Limit: -1, Columns: []api.Column{
			{Name: "a", Kind: api.Int, Must: true}, {Name: "b", Kind: api.Text}, {Name: "c", Kind: api.Text, Must: true},
			{Name: "d", Kind: api.Text, Words: true}, {Name: "e", Kind: api.Text, Must: true, Words: true}, {Name: "a", Kind: api.Int}}})
	says(t, "create table t (a int, b int, c int, d int, e int, f int, g int)", "create table t (a int, b int, c int, d int, e int, f int, g int)",
		api.Statement{Kind: api.Create, Table: "t", Limit: -1, Columns: []api.Column{
			{Name: "a", Kind: api.Int}, {Name: "b", Kind: api.Int}, {Name: "c", Kind: api.Int}, {Name: "d", Kind: api.Int}, {Name: "e", Kind: api.Int}, {Name: "f", Kind: api.Int}, {Name: "g", Kind: api.Int}}})
	for _, s := range []string{"create table^", "create table t^", "create table t ^a int", "create table t (^)", "create table t (^", "create table t (a^", "create table t (a^)", "create table t (a^, b int)", "create table t (a ^b int)", "create table t (a int^", "create table t (a int,^", "create table t (a int,^)", "create table t (a int ^int)", "create table t (a int ^text)", "create table t (a int ^b int)", "create table t (^int a)",
		"create table t (a int ^words)", "create table t (a int not null ^words)", "create table t (a int ^null)", "create table t (a int not^)", "create table t (a int not ^words)", "create table t (a int not null ^not null)", "create table t (a text words ^not null)", "create table t (a text words ^words)", "create table t (a text not ^words)", "create table t (a ^words)", "create table t (a ^not null int)", "create table t (t^.a int)", "create table t (^1 int)", "create table t^.u (a int)", "create table t (a int) ^(b int)", "create table t (a int)^, (b int)"} {
		fails(t, api.ErrForm, s)
	}
}

// TestDrop: 10.1, 10.2, 10.3.
func TestDrop(t *testing.T) {
	says(t, "Drop Table X", "drop table x", api.Statement{Kind: api.Drop, Table: "x", Limit: -1})
	for _, s := range []string{"drop^", "drop ^x", "drop ^index x", "drop table^", "drop table ^;", "drop table x^, y", "drop table x^.y", "drop table ^'x'", "drop table ^(x)", "drop table ^1x"} {
		fails(t, api.ErrForm, s)
	}
}

// TestInsert: 10.1, 10.2, 10.3: rows, of one thing and of many, all as long as they are.
func TestInsert(t *testing.T) {
	says(t, "insert into t values (1)", "insert into t values (1)",
		api.Statement{Kind: api.Insert, Table: "t", Rows: [][]*api.Expr{{num(1)}}, Limit: -1})
	says(t, "insert into t values(1,'x''y',null),((A)),(- 3,b+1,c=1 or d)", "insert into t values (1, 'x''y', null), (a), (- 3, b + 1, c = 1 or d)",
		api.Statement{Kind: api.Insert, Table: "t", Limit: -1, Rows: [][]*api.Expr{
			{num(1), str("x'y"), null()}, {col("a")},
			{one(api.Neg, num(3)), two(api.Add, col("b"), num(1)), two(api.Or, two(api.Eq, col("c"), num(1)), col("d"))}}})
	for _, s := range []string{"insert^", "insert ^t", "insert ^values", "insert into^", "insert into ^values (1)", "insert into t^", "insert into t ^(a) values (1)", "insert into t ^select", "insert into t values^", "insert into t values ^1", "insert into t values (^", "insert into t values (^)", "insert into t values (1^", "insert into t values (1,^", "insert into t values (1,^)", "insert into t values (^,1)", "insert into t values (1 ^2)", "insert into t values (1)^(2)", "insert into t values (1),^", "insert into t values (1), ^2", "insert into t values (1), ^values (2)", "insert into t values (1) ^where a", "insert into t values (^*)", "insert into t values (^count(a))"} {
		fails(t, api.ErrForm, s)
	}
}

// TestDelete: 10.1, 10.2, 10.3: with where and without.
func TestDelete(t *testing.T) {
	says(t, "delete from t", "delete from t", api.Statement{Kind: api.Delete, Table: "t", Limit: -1})
	says(t, "delete from t where(a)", "delete from t where a", api.Statement{Kind: api.Delete, Table: "t", Where: col("a"), Limit: -1})
	for _, s := range []string{"delete^", "delete ^t", "delete ^* from t", "delete from^", "delete from ^where a", "delete from t^, u", "delete from t ^a", "delete from t where^", "delete from t where a^, b", "delete from t where a ^where b", "delete from t where a ^limit 1", "delete from t where ^where", "delete from t ^order by a", "delete from t ^join u on a"} {
		fails(t, api.ErrForm, s)
	}
}

// TestUpdate: 10.1, 10.2, 10.3: what is set, once and twice, with where and without: the first = sets, all behind it asks.
func TestUpdate(t *testing.T) {
	set := func(name string, e *api.Expr) *api.Expr {
		return &api.Expr{Code: api.Col, Name: name, Left: e}
	}
	says(t, "update t set a = 1", "update t set a = 1", api.Statement{Kind: api.Update, Table: "t", Sets: []*api.Expr{set("a", num(1))}, Limit: -1})
	says(t, "update t set A=b=c,b=(a or 1),a=null where b=1", "update t set a = b = c, b = a or 1, a = null where b = 1",
		api.Statement{Kind: api.Update, Table: "t", Limit: -1, Where: two(api.Eq, col("b"), num(1)), Sets: []*api.Expr{
			set("a", two(api.Eq, col("b"), col("c"))), set("b", two(api.Or, col("a"), num(1))), set("a", null())}})
	for _, s := range []string{"update^", "update ^set", "update t^", "update t ^a = 1", "update t set^", "update t set ^where", "update t set a^", "update t set a ^1", "update t set a^, b = 1", "update t set a ^<> 1", "update t set a =^", "update t set a = ^= 1", "update t set a = 1 = 2 ^= 3", "update t set a = 1,^", "update t set a = 1, ^where b", "update t set a = 1 ^b = 2", "update t set a = 1 ^set b = 2", "update t set t^.a = 1", "update t set ^(a) = 1", "update t set ^1 = a", "update t set a = 1 where^", "update t set a = 1 where b^, c = 1", "update t set ^'a' = 1", "update t ^where a set b = 1"} {
		fails(t, api.ErrForm, s)
	}
}

// TestSelect: 10.1, 10.2, 10.3: all that may be missing, missing; and all there.
func TestSelect(t *testing.T) {
	says(t, "select * from t", "select * from t", api.Statement{Kind: api.Select, Table: "t", Limit: -1})
	says(t, "SELECT*FROM t", "select * from t", api.Statement{Kind: api.Select, Table: "t", Limit: -1})
	says(t, "select a from t", "select a from t", api.Statement{Kind: api.Select, Table: "t", Items: []api.Item{{Expr: col("a")}}, Limit: -1})
	says(t, "select t . a,u.b, count ( * ) from T join U on t.a=u.a where b match 'x y' group by a+1 order by rank desc,a asc,b desc,rank,c limit 007",
		"select t.a, u.b, count(*) from t join u on t.a = u.a where b match 'x y' group by a + 1 order by rank desc, a, b desc, rank, c limit 7",
		api.Statement{Kind: api.Select, Table: "t", Other: "u",
			Items: []api.Item{{Expr: col("t.a")}, {Expr: col("u.b")}, {Of: api.Count}},
			On:    two(api.Eq, col("t.a"), col("u.a")), Where: found(col("b"), "x y"), Group: two(api.Add, col("a"), num(1)),
			Order: []api.Rank{{Down: true}, {Expr: col("a")}, {Expr: col("b"), Down: true}, {}, {Expr: col("c")}}, Limit: 7})
	says(t, "select * from t join t on 1", "select * from t join t on 1", api.Statement{Kind: api.Select, Table: "t", Other: "t", On: num(1), Limit: -1})
}

// TestSelectParts: 10.1, 10.2: each part that may be missing, there alone.
func TestSelectParts(t *testing.T) {
	of := func(change func(x *api.Statement)) api.Statement {
		x := api.Statement{Kind: api.Select, Table: "t", Limit: -1}
		change(&x)
		return x
	}
	for s, x := range map[string]api.Statement{
		"join u on a = b":     of(func(x *api.Statement) { x.Other, x.On = "u", two(api.Eq, col("a"), col("b")) }),
		"where a":             of(func(x *api.Statement) { x.Where = col("a") }),
		"group by a":          of(func(x *api.Statement) { x.Group = col("a") }),
		"group by a = 1":      of(func(x *api.Statement) { x.Group = two(api.Eq, col("a"), num(1)) }),
		"order by a":          of(func(x *api.Statement) { x.Order = []api.Rank{{Expr: col("a")}} }),
		"order by rank":       of(func(x *api.Statement) { x.Order = []api.Rank{{}} }),
		"order by rank desc":  of(func(x *api.Statement) { x.Order = []api.Rank{{Down: true}} }),
		"order by a desc, a":  of(func(x *api.Statement) { x.Order = []api.Rank{{Expr: col("a"), Down: true}, {Expr: col("a")}} }),
		"limit 0":             of(func(x *api.Statement) { x.Limit = 0 }),
		"limit 5":             of(func(x *api.Statement) { x.Limit = 5 }),
		"where a limit 999":   of(func(x *api.Statement) { x.Where, x.Limit = col("a"), 999 }),
		"where a order by b":  of(func(x *api.Statement) { x.Where, x.Order = col("a"), []api.Rank{{Expr: col("b")}} }),
		"group by a limit 12": of(func(x *api.Statement) { x.Group, x.Limit = col("a"), 12 }),
	} {
		says(t, "select * from t "+s, "select * from t "+s, x)
		x.Items = []api.Item{{Expr: num(3)}}
		says(t, "select 3 from t "+s, "select 3 from t "+s, x)
	}
	x := of(func(x *api.Statement) { x.Order = []api.Rank{{}, {Expr: col("a")}} })
	says(t, "select * from t order by rank asc, a asc", "select * from t order by rank, a", x)
}

// TestItems: 10.1, 10.2, 10.3: what may be asked of a group, and what may not.
func TestItems(t *testing.T) {
	x := api.Statement{Kind: api.Select, Table: "t", Limit: -1, Items: []api.Item{
		{Of: api.Count}, {Of: api.Count, Expr: col("a")}, {Of: api.Sum, Expr: two(api.Add, col("a"), num(1))}, {Of: api.Min, Expr: two(api.Or, col("b"), col("c"))},
		{Of: api.Max, Expr: one(api.Not, col("t.a"))}, {Expr: two(api.And, col("a"), col("b"))}, {Expr: str("x")}, {Expr: null()}, {Of: api.Count, Expr: null()}}}
	says(t, "select COUNT(*), count (a), sum((a+1)), min(b or c), max(not t.a), a and b, 'x', null, count(null) from t",
		"select count(*), count(a), sum(a + 1), min(b or c), max(not t.a), a and b, 'x', null, count(null) from t", x)
	for _, s := range []string{"^", "^from t", "^, a from t", "a, ^from t", "a ^b from t", "*^, a from t", "*^a from t", "a, ^* from t", "(^*) from t", "count^", "count ^from t", "count ^a from t", "count ^* from t", "count(^) from t", "count(*^", "count(* ^* ) from t", "count(*^, a) from t", "count(a^, b) from t", "count(^count(*)) from t", "count(*) ^+ 1 from t", "1 + ^count(*) from t", "(^count(*)) from t", "sum(^*) from t", "min(^*) from t", "max(^*) from t", "sum(^) from t", "sum ^a from t", "sum ^", "min^.a from t", "t.^count from t", "a ^as b from t", "^rank from t", "- ^sum(a) from t", "not ^max(a) from t", "a * ^from t"} {
		fails(t, api.ErrForm, "select "+s)
	}
}

// TestSelectWrong: 10.1: parts that are not whole, stand twice, or not in their order.
func TestSelectWrong(t *testing.T) {
	for _, s := range []string{"^", "t^.a", "^(t)", "t^, u", "t ^u", "t ^on a", "t join^", "t join u^", "t join u ^where a", "t join u on^", "t join u on ^where a", "t join u on a ^join v on b", "t join ^on a",
		"t where^", "t where ^group by a", "t where a ^join u on a", "t where a ^where b", "t group^", "t group ^a", "t group by^", "t group by a^, b", "t group by a ^where b", "t group by ^rank", "t group by a ^desc",
		"t order^", "t order ^a", "t order by^", "t order by a,^", "t order by ^, a", "t order by a ^b", "t order by a asc ^desc", "t order by a desc ^asc", "t order by ^desc", "t order by ^asc", "t order by rank ^+ 1", "t order by rank ^a", "t order by 1 + ^rank", "t order by (^rank)", "t order by rank^.a", "t order by a ^group by b", "t order by a ^where b", "t order by ^*", "t order by ^count(*)", "t order by a ^order by b",
		"t limit^", "t limit ^a", "t limit ^-1", "t limit ^'1'", "t limit ^(1)", "t limit ^null", "t limit 1 ^+ 1", "t limit 1^, 2", "t limit 1 ^limit 2", "t limit 1 ^order by a", "t limit 1 ^where a", "t limit 1 ^2", "t limit 1^.5"} {
		fails(t, api.ErrForm, "select * from "+s)
	}
	fails(t, api.ErrForm, "select^")
	fails(t, api.ErrForm, "select *^")
	fails(t, api.ErrForm, "select a^")
	fails(t, api.ErrForm, "select a ^where b")
}

// places are statements with one place, at ^?, where a NAME is asked.
var places = []string{
	"create index on ^? (a)", "create index on t (^?)", "create table ^? (a int)", "create table t (^? int)", "create table t (a int, ^? text words)", "drop table ^?",
	"insert into ^? values (1)", "insert into t values (t.^?)", "delete from ^?", "delete from ^? where a", "update ^? set a = 1", "update t set ^? = 1", "update t set a = 1, ^? = 2 where a",
	"select * from ^?", "select * from t join ^? on a", "select t.^? from t", "delete from t where a = t.^?", "delete from t where t.^? match 'x'",
}

// more are statements with one place, at ^?, where an E is asked, and so a NAME may stand.
var more = []string{
	"insert into t values (^?)", "insert into t values (1, ^?), (2)", "delete from t where ^?", "update t set a = ^?", "update t set a = 1 where ^?", "select ^? from t", "select a, ^? from t", "select count(^?) from t",
	"select sum(^?) from t", "select min(^?) from t", "select max(^?) from t", "select * from t join u on ^?", "select * from t where ^?", "select * from t group by ^?", "select * from t order by ^?", "select * from t order by rank, ^? desc",
	"delete from t where not ^?", "delete from t where - ^?", "delete from t where (^?)", "delete from t where a or ^?", "delete from t where a and ^?", "delete from t where a = ^?", "delete from t where a >= ^?", "delete from t where a + ^?",
	"delete from t where a - ^?", "delete from t where a * ^?", "delete from t where ^? is null", "delete from t where ^?.a", "delete from t where ^? match 'x'", "delete from t where (^?) match 'x'", "delete from t where ^? + 1",
}

// in is a place with something in it, where ^? stood.
func in(place, s string) string {
	return strings.Replace(place, "^?", s, 1)
}

// wrongIn fails, unless something in a place is told to be wrong there.
func wrongIn(t *testing.T, want api.Errno, place, s string) {
	t.Helper()
	fails(t, want, strings.Replace(place, "^?", "^"+s, 1))
}

const words = "and asc begin by commit count create delete desc drop from group in index insert int into is join limit match max min not null on or order rank rollback select set sum table text update values where words"

// TestNoNames: 10.1: words that are no names, wherever a NAME is asked, in small letters or not.
func TestNoNames(t *testing.T) {
	for w := range strings.FieldsSeq(words) {
		for _, p := range places {
			wrongIn(t, api.ErrForm, p, w)
			wrongIn(t, api.ErrForm, p, strings.ToUpper(w))
		}
		if w == "not" || w == "null" {
			continue // an E may begin so
		}
		for _, p := range more {
			own := strings.Contains(" count sum min max ", " "+w+" ") && strings.HasPrefix(p, "select ") && strings.HasSuffix(p, "? from t") ||
				w == "rank" && strings.Contains(p, "order by")
			if !own {
				wrongIn(t, api.ErrForm, p, w)
			}
		}
	}
	for _, p := range more {
		if !strings.HasSuffix(p, "match 'x'") && !strings.Contains(p, "?.a") {
			reads(t, in(p, "null"))
		}
	}
}

// TestNames: 10.1, 10.2: other words are names, also those that look like others, of at most MaxName letters.
func TestNames(t *testing.T) {
	for _, w := range []string{"a", "_", "__", "a1", "_1", "ands", "an", "selects", "_and", "and1", "and_", "ranks", "integer", "as", "like", "having", "avg", "distinct", "inner", "key", "primary", "true", "if", "end", "nulls", "no", "word", "t", "value", "between", strings.Repeat("x", api.MaxName), strings.Repeat("_", api.MaxName), "a" + strings.Repeat("1", api.MaxName-1)} {
		for _, p := range places {
			reads(t, in(p, w))
		}
		for _, p := range more {
			reads(t, in(p, w))
		}
		if x := reads(t, "drop table "+strings.ToUpper(w)); x.Table != w {
			t.Errorf("%q: table %q", w, x.Table)
		}
		if x := reads(t, "select "+w+"."+w+" from t"); x.Items[0].Expr.Name != w+"."+w {
			t.Errorf("%q: column %q", w, x.Items[0].Expr.Name)
		}
	}
}

// TestLongNames: 10.1: a NAME of more than MaxName letters: ErrLimit, at it; where none may stand, ErrForm.
func TestLongNames(t *testing.T) {
	for _, w := range []string{strings.Repeat("x", api.MaxName+1), strings.Repeat("Y", api.MaxName+1), strings.Repeat("_", 100), "a" + strings.Repeat("1", api.MaxName), strings.Repeat("and", 6), strings.Repeat("x", 1<<16)} {
		for _, p := range places {
			wrongIn(t, api.ErrLimit, p, w)
		}
		for _, p := range more {
			wrongIn(t, api.ErrLimit, p, w)
		}
		for _, s := range []string{"begin ^", "create ^", "create table t ^", "create table t (a ^", "drop ^", "insert ^", "delete from t ^", "delete from t where a ^", "delete from t where a is ^", "select * ^", "select * from t order ^", "select * from t limit ^", "select a ^"} {
			fails(t, api.ErrForm, s+w)
		}
	}
	m := strings.Repeat("m", api.MaxName)
	if x := reads(t, "select "+m+" . "+m+" from "+m); x.Table != m || x.Items[0].Expr.Name != m+"."+m {
		t.Errorf("%v", x)
	}
	fails(t, api.ErrLimit, "select "+m+".^"+m+"m from "+m)
}

// TestNoNameAtAll: 10.1: what is no Name, where a NAME is asked.
func TestNoNameAtAll(t *testing.T) {
	for _, p := range places {
		for _, s := range []string{"1", "'a'", "''", "(", ")", "*", ",", ".", ";", "=", "-", "1a", "9999999999999999999", "'" + strings.Repeat("x", 100) + "'"} {
			wrongIn(t, api.ErrForm, p, s)
		}
	}
	for _, p := range more {
		for _, s := range []string{")", ",", ".", ";", "=", "+", "<>", "<", "is", "and", "or"} {
			wrongIn(t, api.ErrForm, p, s)
		}
	}
}

// litOf is the value that stands alone behind where.
func litOf(t *testing.T, s string) api.Value {
	t.Helper()
	x := reads(t, "delete from t where "+s)
	if e := x.Where; e == nil || e.Code != api.Lit || e.Left != nil || e.Right != nil || e.Name != "" {
		t.Fatalf("%q: %s", s, tree(e))
	}
	return x.Where.Value
}

// TestNumbers: 10.1, 10.2: an N of 2^63 - 1 and one more, and noughts ahead.
func TestNumbers(t *testing.T) {
	for s, n := range map[string]int64{"0": 0, "1": 1, "42": 42, "007": 7, "0000000000000000000": 0, "0000000000000000001": 1, "9223372036854775807": 1<<63 - 1, "922337203685477580": 922337203685477580, "2147483648": 1 << 31} {
		if v := litOf(t, s); v != (api.Value{Kind: api.Int, Num: n}) {
			t.Errorf("%q: %v", s, v)
		}
	}
	for _, n := range []string{"9223372036854775808", "9223372036854775809", "9999999999999999999", "9300000000000000000"} {
		for _, p := range more {
			if !strings.Contains(p, "match") && !strings.Contains(p, "?.a") {
				wrongIn(t, api.ErrLimit, p, n)
			}
		}
		fails(t, api.ErrLimit, "delete from t where - ^"+n)
		fails(t, api.ErrLimit, "delete from t where ^"+n+" match 'x'")
		fails(t, api.ErrForm, "delete from t where a ^"+n)
		fails(t, api.ErrForm, "delete from ^"+n)
		fails(t, api.ErrLimit, "select * from t limit ^"+n)
	}
	fails(t, api.ErrForm, "delete from t where 1^.5")
	fails(t, api.ErrForm, "delete from t where 1 ^a")
	fails(t, api.ErrForm, "delete from t where 1^a")
	fails(t, api.ErrForm, "delete from t where a.^1")
}

// TestLimits: 10.1, 10.2, 10.3: behind limit nine digits and ten, noughts ahead among them.
func TestLimits(t *testing.T) {
	for s, n := range map[string]int{"0": 0, "1": 1, "999999999": 999999999, "000000000": 0, "000000001": 1, "012": 12, "100000000": 100000000} {
		x := reads(t, "select * from t limit "+s)
		if want := fmt.Sprint("select * from t limit ", n); x.Limit != n || Print(x) != want {
			t.Errorf("limit %s: %d, %q", s, x.Limit, Print(x))
		}
	}
	for _, s := range []string{"1000000000", "0000000000", "0000000001", "9999999999", "2147483648", "9223372036854775807", "9223372036854775808", "0000000000000000001"} {
		fails(t, api.ErrLimit, "select * from t limit ^"+s)
		fails(t, api.ErrLimit, "select * from t limit ^"+s+";")
		fails(t, api.ErrLimit, "select * from t limit ^"+s+" x")
	}
	for _, s := range []string{"begin", "create index on t (a)", "create table t (a int)", "drop table t", "insert into t values (1)", "delete from t", "update t set a = 1"} {
		if x := reads(t, s); x.Limit != -1 {
			t.Errorf("%q: Limit %d", s, x.Limit)
		}
	}
}

// TestStrings: 10.1, 10.2: an S that may be a value, and one that may not: too long, or with a 0 in it.
func TestStrings(t *testing.T) {
	full := strings.Repeat("x", api.MaxLetter)
	for _, s := range []string{"", "a", "it's", "'", "''", " A b ", "from", "(", "null", "\n", "\xff\x01", ";", "1", full, strings.Repeat("'", api.MaxLetter), strings.Repeat("\xc3\xa9", api.MaxLetter/2)} {
		q := "'" + strings.ReplaceAll(s, "'", "''") + "'"
		if v := litOf(t, q); v != (api.Value{Kind: api.Text, Text: s}) {
			t.Errorf("%q: %v", q, v)
		}
		if x := reads(t, "delete from t where a match "+q); !reflect.DeepEqual(x.Where, found(col("a"), s)) {
			t.Errorf("match %q: %s", q, tree(x.Where))
		}
		if got := Print(reads(t, "delete from t where "+q)); got != "delete from t where "+q {
			t.Errorf("%q: printed %q", q, got)
		}
	}
	for _, s := range []string{full + "x", strings.Repeat("''", api.MaxLetter+1), "\x00", "a\x00b", strings.Repeat("\xc3\xa9", api.MaxLetter/2) + "x", strings.Repeat("y", 1<<16), full[1:] + "\x00"} {
		q := "'" + s + "'"
		for _, p := range more {
			if !strings.Contains(p, "match") && !strings.Contains(p, "?.a") {
				wrongIn(t, api.ErrLimit, p, q)
			}
		}
		fails(t, api.ErrLimit, "delete from t where a match ^"+q)
		fails(t, api.ErrLimit, "delete from t where (t.a) match ^"+q+" x")
		fails(t, api.ErrLimit, "delete from t where ^"+q+" match 'x'")
		fails(t, api.ErrForm, "delete from t where a ^"+q)
		fails(t, api.ErrForm, "delete from ^"+q)
		fails(t, api.ErrForm, "select * from t limit ^"+q)
		fails(t, api.ErrForm, "delete from t where 1 ^match "+q)
	}
}

// TestSaysNoWord: 10.1: a String that says a word, or a mark, is none.
func TestSaysNoWord(t *testing.T) {
	for _, s := range []string{"^'begin'", "delete ^'from' t", "delete from t ^'where' a", "delete from t where a ^'=' b", "delete from t where a ^'is' null", "delete from t where a is ^'null'", "select '*', ^* from t", "insert into t values ^'(' 1)", "insert into t values (1^')'", "insert into t values (1 ^',' 2)", "begin ^';'", "select * from t limit ^'5'", "create table t (a ^'int')", "delete from t where a^'.' b"} {
		fails(t, api.ErrForm, s)
	}
	if x := reads(t, "select '*', 'rank', 'count' from t order by 'rank'"); len(x.Items) != 3 || len(x.Order) != 1 || !reflect.DeepEqual(x.Order[0].Expr, str("rank")) {
		t.Errorf("%s", show(x))
	}
}

// TestSplitFirst: 10.1: Split's errors, with their places, ahead of all that is wrong with tokens.
func TestSplitFirst(t *testing.T) {
	long := strings.Repeat("x", api.MaxName+1)
	for _, s := range []string{"^!", "nonsense ^!", "begin begin ^'x", "drop table " + long + " ^\"", "drop table t ^#"} {
		fails(t, api.ErrForm, s)
	}
	fails(t, api.ErrLimit, "nonsense ^12345678901234567890")
	fails(t, api.ErrLimit, "begin begin ^00000000000000000000")
	fails(t, api.ErrLimit, strings.Repeat("a ", api.MaxWords)+"^a")
	fails(t, api.ErrForm, "^"+strings.Repeat("a ", api.MaxWords))
	fails(t, api.ErrForm, strings.Repeat("a ", api.MaxWords)+"^!")
}

// TestManyWords: 10.1, 10.3: a statement of MaxWords tokens; with one more there are too many.
func TestManyWords(t *testing.T) {
	s := "delete from t where a" + strings.Repeat(" + a", (api.MaxWords-6)/2)
	if l, _ := lex.Split(s + ";"); len(l) != api.MaxWords+1 {
		t.Fatalf("%d tokens", len(l))
	}
	if got := Print(reads(t, s+";")); got != s {
		t.Errorf("%q", got)
	}
	fails(t, api.ErrLimit, s+";^;")
	fails(t, api.ErrLimit, s+" +^a")
	rows := "insert into t values (1)" + strings.Repeat(", (1)", (api.MaxWords-7)/4)
	if x := reads(t, rows); len(x.Rows) != 1+(api.MaxWords-7)/4 || Print(x) != rows {
		t.Errorf("%q", Print(x))
	}
}

// TestFirstFromTheLeft: 10.1, P3: of several tokens that are wrong the first one is told; of one token that it may not stand there at all.
func TestFirstFromTheLeft(t *testing.T) {
	long := strings.Repeat("x", api.MaxName+1)
	fails(t, api.ErrLimit, "drop table ^"+long+" x")
	fails(t, api.ErrForm, "drop ^x "+long)
	fails(t, api.ErrLimit, "select ^"+long+" from")
	fails(t, api.ErrLimit, "select ^9223372036854775808 + "+long+" from t")
	fails(t, api.ErrLimit, "select a + ^"+long+" + 9223372036854775808 from t")
	fails(t, api.ErrForm, "select a + ^from 9223372036854775808")
	fails(t, api.ErrForm, "delete from t where a match ^"+long)
	fails(t, api.ErrForm, "delete from t where a match ^9223372036854775808")
	fails(t, api.ErrLimit, "create table t (^"+long+" words)")
	fails(t, api.ErrLimit, "select * from t limit ^1000000000 limit")
	fails(t, api.ErrForm, "select * from t ^limits 1000000000")
}

// TestEndsTooEarly: 10.1: a statement without its last tokens is one, or it is wrong at its End, and nowhere ahead of it.
func TestEndsTooEarly(t *testing.T) {
	for _, s := range []string{
		"begin", "create index on t (a)", "create table t (a int not null, b text not null words, c text)", "drop table t", "insert into t values (1, - 2), (not a, (b))", "delete from t where a is not null and (t.b) match 'x'",
		"update t set a = 1, b = 2 where c", "select a, count(*), count(b), sum(c) from t join u on t.a = u.a where not (a or b) and c <> - d group by a * b order by rank desc, a asc, b limit 5 ;",
	} {
		l, err := lex.Split(s)
		if err != nil {
			t.Fatal(err)
		}
		whole := 0
		for i, k := range l {
			cut := s[:k.At]
			x, err := Parse(cut)
			e, at := plain.Place(err)
			switch {
			case err == nil && i > 0:
				whole++
				if y := reads(t, Print(x)); !reflect.DeepEqual(x, y) {
					t.Errorf("%q: %q", cut, Print(x))
				}
			case e != api.ErrForm || at != len(cut):
				t.Errorf("Parse(%q): error %d at %d", cut, e, at)
			}
		}
		if whole == 0 {
			t.Errorf("%q: no statement", s)
		}
	}
}

// TestRight: as value.Right says.
func TestRight(t *testing.T) {
	for _, v := range []api.Value{{}, {Kind: api.Int, Num: -1}, {Kind: api.Text}, {Kind: api.Text, Text: strings.Repeat("x", api.MaxLetter)}} {
		if !Right(v) {
			t.Errorf("%v is not Right", v)
		}
	}
	for _, v := range []api.Value{{Num: 1}, {Text: "a"}, {Kind: api.Int, Text: "a"}, {Kind: api.Text, Num: 1}, {Kind: api.Text, Text: "\x00"}, {Kind: api.Text, Text: strings.Repeat("x", api.MaxLetter+1)}, {Kind: 3}, {Kind: -1}} {
		if Right(v) {
			t.Errorf("%v is Right", v)
		}
	}
}
