package parse

import (
	"fmt"
	"math"
	"reflect"
	"strings"
	"testing"

	"concordance/api"
)

// signs are the codes of one and of two, as a tree shows them.
var signs = map[int]string{
	api.Neg: "neg", api.Not: "not", api.IsNull: "null?", api.Add: "+", api.Sub: "-", api.Mul: "*", api.Eq: "=", api.Ne: "<>", api.Lt: "<", api.Le: "<=", api.Gt: ">", api.Ge: ">=", api.And: "and", api.Or: "or",
}

// tree shows what an expression has: each code ahead of what it is of, and whatever should not be there.
func tree(e *api.Expr) string {
	if e == nil {
		return "nil"
	}
	extra := func(value, name, left, right bool) string {
		s := ""
		if value && e.Value != (api.Value{}) {
			s += fmt.Sprint(" value ", e.Value)
		}
		if name && e.Name != "" {
			s += " name " + e.Name
		}
		if left && e.Left != nil {
			s += " left " + tree(e.Left)
		}
		if right && e.Right != nil {
			s += " right " + tree(e.Right)
		}
		return s
	}
	switch e.Code {
	case api.Lit:
		return shown(e.Value) + extra(false, true, true, true)
	case api.Col:
		return e.Name + extra(true, false, true, true)
	case api.Match:
		return "(match " + tree(e.Left) + " " + shown(e.Value) + extra(false, true, false, true) + ")"
	case api.Neg, api.Not, api.IsNull:
		return "(" + signs[e.Code] + " " + tree(e.Left) + extra(true, true, false, true) + ")"
	}
	return "(" + signs[e.Code] + " " + tree(e.Left) + " " + tree(e.Right) + extra(true, true, false, false) + ")"
}

// shown is a value, as a tree shows it.
func shown(v api.Value) string {
	switch v {
	case api.Value{}:
		return "null"
	case api.Value{Kind: api.Int, Num: v.Num}:
		return fmt.Sprint(v.Num)
	case api.Value{Kind: api.Text, Text: v.Text}:
		return fmt.Sprintf("%q", v.Text)
	}
	return fmt.Sprintf("%#v", v)
}

// where is the expression that stands behind where.
func where(t *testing.T, s string) *api.Expr {
	t.Helper()
	return reads(t, "delete from t where "+s).Where
}

// means fails, unless a text is this expression, printed so, and what is printed is this expression, too.
func means(t *testing.T, text, want, printed string) {
	t.Helper()
	for _, s := range []string{text, printed, "(" + text + ")", "((" + printed + "))"} {
		e := where(t, s)
		if got := tree(e); got != want {
			t.Errorf("%q is %s, want %s", s, got, want)
		}
		if got := Expr(e); got != printed {
			t.Errorf("Expr of %q: %q, want %q", s, got, printed)
		}
	}
}

// TestDocument: 10.3: the document's example.
func TestDocument(t *testing.T) {
	means(t, "(((a)+(b*2)) = 3) and not (c is null)", "(and (= (+ a (* b 2)) 3) (not (null? c)))", "a + b * 2 = 3 and c is not null")
}

// TestOnes: 10.1, 10.2, 10.3: what an expression is made of.
func TestOnes(t *testing.T) {
	means(t, "a", "a", "a")
	means(t, "(((A)))", "a", "a")
	means(t, "t.a", "t.a", "t.a")
	means(t, "T . A", "t.a", "t.a")
	means(t, "null", "null", "null")
	means(t, "NULL", "null", "null")
	means(t, "0", "0", "0")
	means(t, "007", "7", "7")
	means(t, "9223372036854775807", "9223372036854775807", "9223372036854775807")
	means(t, "''", `""`, "''")
	means(t, "'It''s'", `"It's"`, "'It''s'")
	means(t, "''''", `"'"`, "''''")
	for _, s := range []string{"(^", "(^)", "(a^", "((a)^", "a^)", "a.^", "a.b^.c", "^.a", "a.^.b", "a.^(b)", "(a)^.b", "'a'^.b", "null^.a", "a ^b", "a ^1", "a ^'x'", "a ^(b)", "a ^null", "(a^, b)", "^*", "a .^. b"} {
		fails(t, api.ErrForm, "delete from t where "+s)
	}
}

// TestSums: 10.1, 10.2, 10.3: +, - and * from the left, * tighter; - ahead of one tighter still.
func TestSums(t *testing.T) {
	means(t, "a+b", "(+ a b)", "a + b")
	means(t, "a-b", "(- a b)", "a - b")
	means(t, "a*b", "(* a b)", "a * b")
	means(t, "a - b - c", "(- (- a b) c)", "a - b - c")
	means(t, "(a - b) - c", "(- (- a b) c)", "a - b - c")
	means(t, "a - (b - c)", "(- a (- b c))", "a - (b - c)")
	means(t, "a + (b + c)", "(+ a (+ b c))", "a + (b + c)")
	means(t, "a - b + c", "(+ (- a b) c)", "a - b + c")
	means(t, "a * b * c", "(* (* a b) c)", "a * b * c")
	means(t, "a * (b * c)", "(* a (* b c))", "a * (b * c)")
	means(t, "a + b * c - d", "(- (+ a (* b c)) d)", "a + b * c - d")
	means(t, "(a + b) * c", "(* (+ a b) c)", "(a + b) * c")
	means(t, "a * (b - c)", "(* a (- b c))", "a * (b - c)")
	means(t, "(a * b) + (c * d)", "(+ (* a b) (* c d))", "a * b + c * d")
	means(t, "-a", "(neg a)", "- a")
	means(t, "--1", "(neg (neg 1))", "- - 1")
	means(t, "-(-(a))", "(neg (neg a))", "- - a")
	means(t, "-a*b", "(* (neg a) b)", "- a * b")
	means(t, "-(a*b)", "(neg (* a b))", "- (a * b)")
	means(t, "a*-b", "(* a (neg b))", "a * - b")
	means(t, "a--b", "(- a (neg b))", "a - - b")
	means(t, "a-(-b)", "(- a (neg b))", "a - - b")
	means(t, "-a+b", "(+ (neg a) b)", "- a + b")
	means(t, "-(a+b)", "(neg (+ a b))", "- (a + b)")
	means(t, "- 9223372036854775807 - 1", "(- (neg 9223372036854775807) 1)", "- 9223372036854775807 - 1")
	means(t, "-'x' + null", `(+ (neg "x") null)`, "- 'x' + null")
	for _, s := range []string{"a +^", "a -^", "a *^", "^+ a", "^+a", "a + ^+ b", "a * ^* b", "a - ^* b", "-^", "- -^", "(-^)", "a + ^)", "a + ^= b", "- ^not a", "a + ^not b", "a * ^not b", "- ^+ a", "a - ^is null"} {
		fails(t, api.ErrForm, "delete from t where "+s)
	}
}

// TestAsks: 10.1, 10.2, 10.3: each question, asked once: of sums, and not of another question.
func TestAsks(t *testing.T) {
	for _, s := range []string{"=", "<>", "<", "<=", ">", ">="} {
		means(t, "a"+s+"b", "("+s+" a b)", "a "+s+" b")
		means(t, "a + 1 "+s+" (b * 2)", "("+s+" (+ a 1) (* b 2))", "a + 1 "+s+" b * 2")
		means(t, "(a "+s+" b) "+s+" c", "("+s+" ("+s+" a b) c)", "(a "+s+" b) "+s+" c")
		means(t, "a "+s+" (b "+s+" c)", "("+s+" a ("+s+" b c))", "a "+s+" (b "+s+" c)")
		means(t, "(a or b) "+s+" (not c)", "("+s+" (or a b) (not c))", "(a or b) "+s+" (not c)")
		means(t, "(a is null) "+s+" (b is not null)", "("+s+" (null? a) (not (null? b)))", "(a is null) "+s+" (b is not null)")
		means(t, "(a match 'x') "+s+" 1", "("+s+` (match a "x") 1)`, "(a match 'x') "+s+" 1")
		means(t, "(a "+s+" b) + c", "(+ ("+s+" a b) c)", "(a "+s+" b) + c")
		means(t, "-(a "+s+" b)", "(neg ("+s+" a b))", "- (a "+s+" b)")
		for _, other := range []string{"=", "<>", "<", "<=", ">", ">=", "is null", "is not null", "match 'x'"} {
			fails(t, api.ErrForm, "delete from t where a "+s+" b ^"+other+" c")
		}
		for _, wrong := range []string{"a " + s + "^", "a " + s + " ^not b", "^" + s + " a", "a " + s + " ^and b", "a " + s + " ^)", "a " + s + " ^= b", "not ^" + s + " a"} {
			fails(t, api.ErrForm, "delete from t where "+wrong)
		}
	}
	fails(t, api.ErrForm, "delete from t where a < ^> b")
	fails(t, api.ErrForm, "delete from t where a = ^< b")
}

// TestIsNull: 10.1, 10.2, 10.3: is null, and is not null, which is Not of it, however it is said.
func TestIsNull(t *testing.T) {
	means(t, "a is null", "(null? a)", "a is null")
	means(t, "a IS NOT NULL", "(not (null? a))", "a is not null")
	means(t, "not a is null", "(not (null? a))", "a is not null")
	means(t, "not (a is null)", "(not (null? a))", "a is not null")
	means(t, "not a is not null", "(not (not (null? a)))", "not a is not null")
	means(t, "not not a is null", "(not (not (null? a)))", "not a is not null")
	means(t, "not not not a is null", "(not (not (not (null? a))))", "not not a is not null")
	means(t, "(a is null) is null", "(null? (null? a))", "(a is null) is null")
	means(t, "(a is not null) is not null", "(not (null? (not (null? a))))", "(a is not null) is not null")
	means(t, "(not a) is null", "(null? (not a))", "(not a) is null")
	means(t, "not (not a) is null", "(not (null? (not a)))", "(not a) is not null")
	means(t, "a + 1 is null", "(null? (+ a 1))", "a + 1 is null")
	means(t, "(a * b) is not null", "(not (null? (* a b)))", "a * b is not null")
	means(t, "a + (b is null)", "(+ a (null? b))", "a + (b is null)")
	means(t, "- (a is not null)", "(neg (not (null? a)))", "- (a is not null)")
	means(t, "- a is not null", "(not (null? (neg a)))", "- a is not null")
	means(t, "(a = b) is not null", "(not (null? (= a b)))", "(a = b) is not null")
	means(t, "(a and b) is not null", "(not (null? (and a b)))", "(a and b) is not null")
	means(t, "(a match 'x') is null", `(null? (match a "x"))`, "(a match 'x') is null")
	means(t, "null is null", "(null? null)", "null is null")
	means(t, "not (a is null) and b is null", "(and (not (null? a)) (null? b))", "a is not null and b is null")
	means(t, "(a is not null or b) and c", "(and (or (not (null? a)) b) c)", "(a is not null or b) and c")
	for _, s := range []string{"a is^", "a is ^a", "a is ^1", "a is ^'null'", "a is ^(null)", "a is not^", "a is not ^1", "a is not ^not null", "a is not ^a", "a is null ^is null", "a is null ^= 1", "a is null ^+ 1", "a is null ^null", "a is not null ^is not null", "a is null ^match 'x'", "^is null", "^is not null", "a ^not null", "a ^isnull", "a ^is_null"} {
		fails(t, api.ErrForm, "delete from t where "+s)
	}
}

// TestMatch: 10.1, 10.2, 10.3: match behind a column alone, in ( and ) or not.
func TestMatch(t *testing.T) {
	means(t, "a match 'x'", `(match a "x")`, "a match 'x'")
	means(t, "a match 'It''s \"so\"'", `(match a "It's \"so\"")`, "a match 'It''s \"so\"'")
	means(t, "a match ''", `(match a "")`, "a match ''")
	means(t, "(a) match 'x'", `(match a "x")`, "a match 'x'")
	means(t, "(((t.a))) match 'x'", `(match t.a "x")`, "t.a match 'x'")
	means(t, "not a match 'x'", `(not (match a "x"))`, "not a match 'x'")
	means(t, "a match 'x' and (b) match 'y' or c", `(or (and (match a "x") (match b "y")) c)`, "a match 'x' and b match 'y' or c")
	means(t, "(a match 'x') + 1", `(+ (match a "x") 1)`, "(a match 'x') + 1")
	for _, s := range []string{"1", "'a'", "null", "- a", "(- a)", "a + b", "(a + b)", "a + b * c", "1 + a", "a * b", "(a = b)", "(a and b)", "(not a)", "(a is null)", "(a match 'x')", "((a) + 0)", "(1)", "a = b", "a = 1", "a is null", "a is not null", "a match 'x'", "not 1", "a and 1", "a or - b", "(a) + (b)", "a - b", "1 + (a)"} {
		fails(t, api.ErrForm, "delete from t where "+s+" ^match 'x'")
		fails(t, api.ErrForm, "delete from t where ("+s+" ^match 'x')")
	}
	for _, s := range []string{"a match^", "a match ^x", "a match ^1", "a match ^null", "a match ^('x')", "a match ^b match 'x'", "a match 'x' ^'y'", "a match 'x' ^+ 1", "a match 'x' ^= 1", "a match 'x' ^is null", "a ^not match 'x'", "^match 'x'", "(^match 'x')", "a match 'x' ^match 'y'"} {
		fails(t, api.ErrForm, "delete from t where "+s)
	}
}

// TestConditions: 10.1, 10.2, 10.3: not, and, or: each holds looser than the one ahead, from the left.
func TestConditions(t *testing.T) {
	means(t, "a or b", "(or a b)", "a or b")
	means(t, "a and b", "(and a b)", "a and b")
	means(t, "NOT a", "(not a)", "not a")
	means(t, "not not a", "(not (not a))", "not not a")
	means(t, "not (not (a))", "(not (not a))", "not not a")
	means(t, "a or b or c", "(or (or a b) c)", "a or b or c")
	means(t, "a or (b or c)", "(or a (or b c))", "a or (b or c)")
	means(t, "a and b and c", "(and (and a b) c)", "a and b and c")
	means(t, "a and (b and c)", "(and a (and b c))", "a and (b and c)")
	means(t, "a or b and c", "(or a (and b c))", "a or b and c")
	means(t, "a and b or c", "(or (and a b) c)", "a and b or c")
	means(t, "(a or b) and c", "(and (or a b) c)", "(a or b) and c")
	means(t, "a and (b or c)", "(and a (or b c))", "a and (b or c)")
	means(t, "not a and b", "(and (not a) b)", "not a and b")
	means(t, "not (a and b)", "(not (and a b))", "not (a and b)")
	means(t, "not a or b", "(or (not a) b)", "not a or b")
	means(t, "not (a or b)", "(not (or a b))", "not (a or b)")
	means(t, "a and not b", "(and a (not b))", "a and not b")
	means(t, "not a = b", "(not (= a b))", "not a = b")
	means(t, "(not a) = b", "(= (not a) b)", "(not a) = b")
	means(t, "not - a", "(not (neg a))", "not - a")
	means(t, "- (not a)", "(neg (not a))", "- (not a)")
	means(t, "(a = 1) and (b + 1 > 2)", "(and (= a 1) (> (+ b 1) 2))", "a = 1 and b + 1 > 2")
	means(t, "(a and b) + 1", "(+ (and a b) 1)", "(a and b) + 1")
	means(t, "a * (b or c)", "(* a (or b c))", "a * (b or c)")
	means(t, "not 1 + 2 * 3 = 7 and 'x' or null", `(or (and (not (= (+ 1 (* 2 3)) 7)) "x") null)`, "not 1 + 2 * 3 = 7 and 'x' or null")
	for _, s := range []string{"a or^", "a and^", "not^", "not not^", "^or a", "^and a", "a or ^or b", "a and ^and b", "a and ^or b", "a or ^and b", "not ^and a", "not ^or a", "a ^not b", "(not^)", "(a or^)", "(a ^b) or c", "a or (^or b)", "a ^in (1)", "not ^in", "a and ^)"} {
		fails(t, api.ErrForm, "delete from t where "+s)
	}
}

// nest is an expression in so many of these.
func nest(n int, open, inside, close string) string {
	return strings.Repeat(open, n) + inside + strings.Repeat(close, n)
}

// TestDepth: 10.1: (, not and - in each other MaxDepth deep, and one more, wherever an E stands.
func TestDepth(t *testing.T) {
	const most = api.MaxDepth
	for _, p := range more {
		if strings.Contains(p, "match") || strings.Contains(p, "?.a") {
			continue
		}
		// What the place itself is in counts, too.
		own := 0
		for _, s := range []string{"not ^?", "- ^?", "(^?)"} {
			if strings.HasPrefix(p, "delete from t where "+s) {
				own = 1
			}
		}
		here := func(s string) string { return strings.Replace(p, "^?", s, 1) }
		n := most - own
		reads(t, here(nest(n, "(", "a", ")")))
		reads(t, here(nest(n, "(", "1", ")")))
		reads(t, here(nest(n, "- ", "'x'", "")))
		reads(t, here(nest(n/2, "(- ", "null", ")")))
		fails(t, api.ErrLimit, here(nest(n+1, "(", "^a", ")")))
		fails(t, api.ErrLimit, here(nest(n+1, "(", "^(a)", ")")))
		fails(t, api.ErrLimit, here(nest(n+1, "- ", "^a", "")))
		fails(t, api.ErrLimit, here(nest(n+1, "- ", "^- a", "")))
		fails(t, api.ErrLimit, here(nest(n+1, "-", "^(a)", "")))
	}
	for _, p := range []string{"delete from t where ", "select * from t join u on ", "select a, ", "update t set a = ", "insert into t values (", "select count("} {
		end := map[string]string{"select a, ": " from t", "insert into t values (": ")", "select count(": ") from t"}[p]
		reads(t, p+nest(most, "not ", "a", "")+end)
		reads(t, p+nest(most/2, "not (", "a", ")")+end)
		reads(t, p+nest(most/3, "not - (", "a", ")")+end)
		fails(t, api.ErrLimit, p+nest(most+1, "not ", "^a", "")+end)
		fails(t, api.ErrLimit, p+nest(most+1, "not ", "^not a", "")+end)
		fails(t, api.ErrLimit, p+nest(most/2, "not (", "not ^a", ")")+end)
		fails(t, api.ErrLimit, p+nest(most/3, "not - (", "not ^(a)", ")")+end)
		fails(t, api.ErrLimit, p+nest(most/3, "not - (", "- ^a", ")")+end)
		fails(t, api.ErrLimit, p+nest(most/3, "not - (", "(^a)", ")")+end)
	}
}

// TestDepthCounts: 10.1: what stands in what counts, and not what stands beside it; a - between two counts as little as what is of ( and ) but of no ONE.
func TestDepthCounts(t *testing.T) {
	const most = api.MaxDepth
	deep := nest(most, "(", "a", ")")
	reads(t, "delete from t where "+deep+" + "+deep+" = "+deep+" and "+deep)
	reads(t, "delete from t where a"+strings.Repeat(" - a", 50))
	reads(t, "delete from t where not a"+strings.Repeat(" and not a", 50))
	reads(t, "delete from t where - a"+strings.Repeat(" * - a", 40))
	reads(t, "delete from t where (a)"+strings.Repeat(" or (a)", 30))
	reads(t, "delete from t where a"+strings.Repeat(" and a is not null", 30))
	reads(t, "select count("+deep+") from t")
	reads(t, "insert into t values ("+deep+"), ("+deep+")")
	reads(t, "delete from t where "+nest(most, "(", "a is not null", ")"))
	reads(t, "delete from t where "+nest(most, "(", "a - b", ")"))
	reads(t, "delete from t where "+nest(most, "(", "a", ")")+" match 'x'")
	fails(t, api.ErrLimit, "delete from t where "+nest(most+1, "(", "^a", ")")+" match 'x'")
	fails(t, api.ErrLimit, "delete from t where "+deep+" + ("+nest(most, "(", "^a", ")")+")")
	fails(t, api.ErrLimit, "delete from t where "+nest(most, "(", "a - - ^b", ")"))
	fails(t, api.ErrLimit, "delete from t where "+nest(most, "(", "a and not ^b", ")"))
	fails(t, api.ErrLimit, "delete from t where not a = "+nest(most, "- ", "^b", ""))
	fails(t, api.ErrLimit, "delete from t where a and "+nest(most+1, "not ", "^b", ""))
}

// TestDepthAndForm: 10.1, P3: too deep stands only what begins there; what may not stand there at all is told to be so.
func TestDepthAndForm(t *testing.T) {
	const most = api.MaxDepth
	for _, open := range []string{"(", "- ", "not "} {
		for _, s := range []string{"", ")", "=", "and", "from", "+", "rank", "*", "is null"} {
			fails(t, api.ErrForm, "delete from t where "+strings.Repeat(open, most+1)+"^"+s)
		}
		for _, s := range []string{"a", "1", "'x'", "null", "(", "-", "- )", "( from", "a b", strings.Repeat("x", 99), "9999999999999999999", "'\x00'"} {
			fails(t, api.ErrLimit, "delete from t where "+strings.Repeat(open, most+1)+"^"+s)
		}
	}
	fails(t, api.ErrForm, "delete from t where "+strings.Repeat("- ", most+1)+"^not a")
	fails(t, api.ErrLimit, "delete from t where "+strings.Repeat("(", most+1)+"^not a")
	fails(t, api.ErrLimit, "delete from t where "+strings.Repeat("not ", most+1)+"^not")
	fails(t, api.ErrForm, "delete from t where a ^b "+strings.Repeat("(", most+1)+"a")
	fails(t, api.ErrLimit, "delete from t where "+strings.Repeat("(", most+1)+"^a b")
}

// TestLiteral: 10.3: each kind of value.
func TestLiteral(t *testing.T) {
	for _, c := range []struct {
		v    api.Value
		want string
	}{
		{api.Value{}, "null"},
		{api.Value{Kind: api.Int}, "0"},
		{api.Value{Kind: api.Int, Num: 7}, "7"},
		{api.Value{Kind: api.Int, Num: -7}, "-7"},
		{api.Value{Kind: api.Int, Num: math.MaxInt64}, "9223372036854775807"},
		{api.Value{Kind: api.Int, Num: math.MinInt64}, "-9223372036854775808"},
		{api.Value{Kind: api.Text}, "''"},
		{api.Value{Kind: api.Text, Text: "a b"}, "'a b'"},
		{api.Value{Kind: api.Text, Text: "it's"}, "'it''s'"},
		{api.Value{Kind: api.Text, Text: "''"}, "''''''"},
		{api.Value{Kind: api.Text, Text: "null"}, "'null'"},
		{api.Value{Kind: api.Text, Text: "A\n\xff\""}, "'A\n\xff\"'"},
	} {
		if got := Literal(c.v); got != c.want {
			t.Errorf("Literal(%v) = %q, want %q", c.v, got, c.want)
		}
	}
}

// TestNoExpr: 10.3: of nil the empty text.
func TestNoExpr(t *testing.T) {
	if got := Expr(nil); got != "" {
		t.Errorf("%q", got)
	}
	if x := reads(t, "select * from t"); Expr(x.Where)+Expr(x.On)+Expr(x.Group) != "" {
		t.Error("not empty")
	}
}

// TestPrintedWhereItStands: 10.3: an expression is printed the same in each statement: ( and ) around the whole are never needed.
func TestPrintedWhereItStands(t *testing.T) {
	for _, s := range []string{"a", "a or b", "not a", "- a", "a = 1", "(a or b) and c", "a is not null", "a match 'x'", "a - (b - c)"} {
		for _, p := range []string{"insert into t values (1, ?, 2), (?)", "delete from t where ?", "update t set a = ?, b = ? where ?", "select ?, count(?), sum(?), min(?), max(?) from t join u on ? where ? group by ? order by ?, ? desc limit 1"} {
			want := strings.ReplaceAll(p, "?", s)
			if got := Print(reads(t, want)); got != want {
				t.Errorf("%q, want %q", got, want)
			}
			if got := Print(reads(t, strings.ReplaceAll(p, "?", "("+s+")"))); got != want {
				t.Errorf("%q, want %q", got, want)
			}
		}
	}
}

// TestSame: P4: what is printed is not changed by it, and asked again it is the same.
func TestSame(t *testing.T) {
	const s = "select a, count(*) from t join u on a = b where not (c is null) and d match 'x' group by e order by rank, f desc limit 3"
	x, y := reads(t, s), reads(t, s)
	one := Print(x)
	if !reflect.DeepEqual(x, y) {
		t.Errorf("Print changed %s", show(x))
	}
	if again := Print(x); again != one {
		t.Errorf("%q, then %q", one, again)
	}
}
