package eval

import (
	"errors"
	"math"
	"reflect"
	"slices"
	"strings"
	"testing"
	"unsafe"

	"concordance/api"
	"concordance/parse"
	"concordance/plain"
)

// where is the expression that a text is.
func where(t *testing.T, s string) *api.Expr {
	t.Helper()
	x, err := parse.Parse("delete from t where " + s)
	if err != nil {
		t.Fatalf("%q: %v", s, err)
	}
	return x.Where
}

// comesTo fails, unless a text comes to this value, or error, in someRow.
func comesTo(t *testing.T, s string, want api.Value, errno api.Errno) {
	t.Helper()
	got, err := Eval(where(t, s), someRow().env())
	same(t, s, got, err, want, errno)
}

// TestEval: 11.2: what each code comes to. (Of the row a is 3, b 'x', c nothing.)
func TestEval(t *testing.T) {
	for s, want := range map[string]api.Value{
		"7":                         num(7),
		"null":                      nothing,
		"'it''s'":                   str("it's"),
		"''":                        str(""),
		"a":                         num(3),
		"t.a":                       num(0),
		"b":                         str("x"),
		"c":                         nothing,
		"b match 'in'":              num(1),
		"b match 'out'":             num(0),
		"t.a match 'in'":            num(1),
		"none match 'in'":           num(1),
		"- a":                       num(-3),
		"- 0":                       num(0),
		"- - a":                     num(3),
		"- c":                       nothing,
		"- most":                    num(-math.MaxInt64),
		"not a":                     num(0),
		"not 0":                     num(1),
		"not - 1":                   num(0),
		"not c":                     nothing,
		"not not a":                 num(1),
		"not least":                 num(0),
		"a is null":                 num(0),
		"b is null":                 num(0),
		"c is null":                 num(1),
		"c is not null":             num(0),
		"'' is null":                num(0),
		"0 is null":                 num(0),
		"c + 1 is null":             num(1),
		"(c is null) is null":       num(0),
		"a + 4":                     num(7),
		"a - 4":                     num(-1),
		"a * 4":                     num(12),
		"10 - a - 2":                num(5),
		"10 - (a - 2)":              num(9),
		"a + c":                     nothing,
		"c * 0":                     nothing,
		"least + most":              num(-1),
		"most - most":               num(0),
		"a = 3":                     num(1),
		"a = 4":                     num(0),
		"a <> 3":                    num(0),
		"a <> 4":                    num(1),
		"a < 3":                     num(0),
		"a < 4":                     num(1),
		"a <= 3":                    num(1),
		"a <= 2":                    num(0),
		"a > 3":                     num(0),
		"a > 2":                     num(1),
		"a >= 3":                    num(1),
		"a >= 4":                    num(0),
		"a = b":                     num(0),
		"a < b":                     num(1),
		"most < ''":                 num(1),
		"b = 'x'":                   num(1),
		"b = 'X'":                   num(0),
		"b < 'xa'":                  num(1),
		"'3' = 3":                   num(0),
		"'3' > 3":                   num(1),
		"c = c":                     nothing,
		"c <> 1":                    nothing,
		"'x' >= c":                  nothing,
		"c and 0":                   num(0),
		"c or 0":                    nothing,
		"c and 1":                   nothing,
		"c or 1":                    num(1),
		"c and c":                   nothing,
		"c or c":                    nothing,
		"5 and - 5":                 num(1),
		"5 or 0":                    num(1),
		"0 or 0":                    num(0),
		"a and t.a":                 num(0),
		"not (c and 0)":             num(1),
		"c = 1 or a = 3":            num(1),
		"b match 'in' and a = 3":    num(1),
		"(b match 'out') + 1":       num(1),
		"(a = 3) + (a > 1) * 2":     num(3),
		"(a < 4) < 'x'":             num(1),
		"not a + 1 = 4 or b = 'yy'": num(0),
	} {
		comesTo(t, s, want, api.OK)
	}
}

// TestEvalErrors: 11.2: what cannot be counted, held or fitted; of two errors the left one; both sides always, also where one of them would settle it.
func TestEvalErrors(t *testing.T) {
	for s, want := range map[string]api.Errno{
		"none":                      api.ErrName,
		"- none":                    api.ErrName,
		"not none":                  api.ErrName,
		"none is null":              api.ErrName,
		"- b":                       api.ErrArg,
		"- ''":                      api.ErrArg,
		"not b":                     api.ErrArg,
		"- least":                   api.ErrRange,
		"- (- most - 1)":            api.ErrRange,
		"0 - least":                 api.ErrRange,
		"most + 1":                  api.ErrRange,
		"least - 1":                 api.ErrRange,
		"most * 2":                  api.ErrRange,
		"least * - 1":               api.ErrRange,
		"a + b":                     api.ErrArg,
		"b + a":                     api.ErrArg,
		"b * 0":                     api.ErrArg,
		"c + b":                     api.ErrArg,
		"b - c":                     api.ErrArg,
		"b and 0":                   api.ErrArg,
		"0 and b":                   api.ErrArg,
		"1 or b":                    api.ErrArg,
		"b or 1":                    api.ErrArg,
		"c and b":                   api.ErrArg,
		"b or c":                    api.ErrArg,
		"0 and none":                api.ErrName,
		"1 or none":                 api.ErrName,
		"c + none":                  api.ErrName,
		"c = none":                  api.ErrName,
		"0 and most + 1":            api.ErrRange,
		"c = - b":                   api.ErrArg,
		"b + none":                  api.ErrName,
		"none + b":                  api.ErrName,
		"b and none":                api.ErrName,
		"(most + 1) + b":            api.ErrRange,
		"b + (most + 1)":            api.ErrRange,
		"b + 1 + (most + 1)":        api.ErrArg,
		"most + 1 = none":           api.ErrRange,
		"none = most + 1":           api.ErrName,
		"- b = most + 1":            api.ErrArg,
		"most + 1 = - b":            api.ErrRange,
		"(most + 1) is null":        api.ErrRange,
		"not (a and b)":             api.ErrArg,
		"most + 1 - 1":              api.ErrRange,
		"most * 2 and none or b":    api.ErrRange,
		"a and (b or none) and - b": api.ErrName,
	} {
		comesTo(t, s, nothing, want)
	}
}

// errnoOf fails, unless an expression comes to an error alone.
func errnoOf(t *testing.T, e *api.Expr, want api.Errno) {
	t.Helper()
	got, err := Eval(e, someRow().env())
	same(t, show(e), got, err, nothing, want)
}

// TestNoExpression: 11.2: ErrForm, if it is nil, or its code none, or a Match of no Col: there, or beneath, where it is asked.
func TestNoExpression(t *testing.T) {
	l := append(wrongs(), &api.Expr{Code: math.MinInt}, &api.Expr{Code: math.MaxInt}, &api.Expr{Code: 18, Value: num(1), Name: "a", Left: col("a"), Right: col("a")})
	for _, wrong := range l {
		errnoOf(t, wrong, api.ErrForm)
		for _, code := range ones {
			errnoOf(t, one(code, wrong), api.ErrForm)
		}
		for _, code := range twos {
			errnoOf(t, pair(code, wrong, col("a")), api.ErrForm)
			errnoOf(t, pair(code, col("a"), wrong), api.ErrForm)
			errnoOf(t, pair(code, wrong, wrong), api.ErrForm)
			errnoOf(t, pair(code, lit(nothing), wrong), api.ErrForm)
			errnoOf(t, pair(code, lit(num(0)), wrong), api.ErrForm)
			// The sides ahead of what they come to together, the left one ahead of the right one.
			errnoOf(t, pair(code, lit(str("x")), wrong), api.ErrForm)
			errnoOf(t, pair(code, col("none"), wrong), api.ErrName)
			errnoOf(t, pair(code, wrong, col("none")), api.ErrForm)
			errnoOf(t, pair(code, one(api.Neg, col("least")), wrong), api.ErrRange)
			errnoOf(t, pair(code, pair(code, wrong, col("a")), col("none")), api.ErrForm)
		}
	}
}

// TestNothingIsAskedOfNone: 11.2: what is none asks nothing; behind an error nothing is asked any more.
func TestNothingIsAskedOfNone(t *testing.T) {
	for _, e := range []*api.Expr{
		{Code: 0, Left: col("a"), Right: col("b")},
		{Code: 18, Name: "a", Left: col("a"), Right: match("b", "in")},
		{Code: api.Match, Name: "b", Left: lit(str("b")), Right: col("b"), Value: str("in")},
		{Code: api.Match, Left: one(api.Neg, col("b")), Value: str("in")},
	} {
		r := someRow()
		if _, err := Eval(e, r.env()); err != api.ErrForm || len(r.asked) > 0 {
			t.Errorf("%s: %v, asked %q", show(e), err, r.asked)
		}
	}
}

// TestOneSide: 11.2: codes of one side ask the left one alone, whatever stands on the right; a Lit and a Col ask none.
func TestOneSide(t *testing.T) {
	for _, other := range append(wrongs(), col("none"), match("b", "?"), lit(str("x"))) {
		for _, c := range []struct {
			e    *api.Expr
			want api.Value
		}{
			{pair(api.Neg, col("a"), other), num(-3)},
			{pair(api.Not, col("a"), other), num(0)},
			{pair(api.IsNull, col("a"), other), num(0)},
			{&api.Expr{Code: api.Lit, Value: num(9), Name: "none", Left: other, Right: other}, num(9)},
			{&api.Expr{Code: api.Col, Value: num(9), Name: "a", Left: other, Right: other}, num(3)},
			{&api.Expr{Code: api.Match, Value: str("in"), Name: "none", Left: col("a"), Right: other}, num(1)},
		} {
			got, err := Eval(c.e, someRow().env())
			same(t, show(c.e), got, err, c.want, api.OK)
		}
	}
}

// TestAsksInOrder: 11.2: all that an expression asks is asked, once for each time it stands there, from left to right; a Match by its column's name and what is looked for.
func TestAsksInOrder(t *testing.T) {
	for s, want := range map[string]string{
		"a":                                     "a",
		"1 + 2":                                 "",
		"a + a":                                 "a,a",
		"t.a < a and b match 'in' or c":         "t.a,a,b in,c",
		"c or (b match 'out' and t.a < a)":      "c,b out,t.a,a",
		"0 and a and b match 'in'":              "a,b in",
		"1 or a or - c = b":                     "a,c,b",
		"(a = 1 or a = 3) and not a is null":    "a,a,a",
		"b match 'in' and b match 'out' and b":  "b in,b out,b",
		"a + none + c":                          "a,none",
		"none match '?' or a":                   "none ?",
		"- b = a":                               "b",
		"a = - b and c":                         "a,b",
		"none.x match 'out' or t.a match 'out'": "none.x out,t.a out",
	} {
		r := someRow()
		Eval(where(t, s), r.env())
		if got := strings.Join(r.asked, ","); got != want {
			t.Errorf("%q asks %q, want %q", s, got, want)
		}
	}
}

// wrapped is an error around another one.
type wrapped struct{ inner error }

func (w wrapped) Error() string { return "wrapped: " + w.inner.Error() }

func (w wrapped) Unwrap() error { return w.inner }

// TestErrorsOfEnv: 11.2, P2, P3: errors of what is asked come out as they are, with their place, and nothing beside them.
func TestErrorsOfEnv(t *testing.T) {
	for _, want := range []error{api.ErrName, api.ErrState, &api.At{Err: api.ErrForm, Place: 5}, wrapped{&api.At{Err: api.ErrLimit, Place: 7}}, wrapped{api.ErrArg}, errors.New("another one")} {
		env := Env{
			Col:   func(string) (api.Value, error) { return num(5), want },
			Match: func(string, string) (bool, error) { return true, want },
		}
		for _, s := range []string{"a", "- a", "a is null", "1 + a", "a + 'x'", "0 and a", "b match 'in'", "not b match 'in'", "1 or b match 'in'", "'x' or b match 'in'"} {
			got, err := Eval(where(t, s), env)
			if got != nothing || err != want {
				t.Errorf("%q: %v, %v, want nothing, %v", s, got, err, want)
			}
			if e, at := plain.Place(err); e != api.Tell(want) {
				t.Errorf("%q: error %d at %d", s, e, at)
			}
		}
	}
}

// TestNobodyTells: P1: an Env that lacks something tells that it is not there, and only if it is asked.
func TestNobodyTells(t *testing.T) {
	some := someRow()
	for _, env := range []Env{{}, {Match: some.match}} {
		got, err := Eval(where(t, "0 and a"), env)
		same(t, "a column", got, err, nothing, api.ErrMissing)
		got, err = Eval(where(t, "1 + 1 = 2"), env)
		same(t, "no column", got, err, num(1), api.OK)
	}
	for _, env := range []Env{{}, {Col: some.col}} {
		got, err := Eval(where(t, "0 and b match 'in'"), env)
		same(t, "words", got, err, nothing, api.ErrMissing)
	}
	got, err := Eval(where(t, "b match 'in'"), Env{Match: some.match})
	same(t, "words alone", got, err, num(1), api.OK)
	got, err = Eval(where(t, "a + 1"), Env{Col: some.col})
	same(t, "columns alone", got, err, num(4), api.OK)
	got, err = Eval(nil, Env{})
	same(t, "nil", got, err, nothing, api.ErrForm)
}

// TestColumns: 11.3: names as they stand, from left to right, as often as they stand there.
func TestColumns(t *testing.T) {
	for s, want := range map[string]string{
		"1":                                    "",
		"null = 'a' or not 3":                  "",
		"a":                                    "a",
		"t.a":                                  "t.a",
		"- a":                                  "a",
		"a is not null":                        "a",
		"b match 'c'":                          "b",
		"t.b match 'c'":                        "t.b",
		"a + b":                                "a b",
		"b + a":                                "b a",
		"a + a":                                "a a",
		"a + t.a * a":                          "a t.a a",
		"c = 1 and b match 'x' or a < b":       "c b a b",
		"a < b or (b match 'x' and c = 1)":     "a b b c",
		"(a or b) and (c or (d or a))":         "a b c d a",
		"not (- x = y) and z is null and 'w'":  "x y z",
		"a and b and c and a and b and c":      "a b c a b c",
		"a = (b = (c = (d = 1)))":              "a b c d",
		"b match 'x' and b match 'x' and b":    "b b b",
		"1 + 2 = 3 and a":                      "a",
		"zz > 1 or aa > 1 or zz > 1 or mm = 1": "zz aa zz mm",
	} {
		if got := strings.Join(Columns(where(t, s)), " "); got != want {
			t.Errorf("Columns of %q: %q, want %q", s, got, want)
		}
	}
	if l := Columns(nil); len(l) > 0 {
		t.Errorf("Columns of nil: %q", l)
	}
}

// printed are expressions, as they are printed.
func printed(l []*api.Expr) string {
	var out []string
	for _, e := range l {
		out = append(out, parse.Expr(e))
	}
	return strings.Join(out, " | ")
}

// TestParts: 11.3: of And those of both sides, nested on either side; of all else it alone; of nil none.
func TestParts(t *testing.T) {
	for s, want := range map[string]string{
		"a":                           "a",
		"a = 1":                       "a = 1",
		"a or b":                      "a or b",
		"a and b":                     "a | b",
		"a and b and c":               "a | b | c",
		"(a and b) and c":             "a | b | c",
		"a and (b and c)":             "a | b | c",
		"(a and b) and (c and d)":     "a | b | c | d",
		"a and (b and (c and d))":     "a | b | c | d",
		"a and (b and c) and d":       "a | b | c | d",
		"a and a":                     "a | a",
		"a and (b or c and d)":        "a | b or c and d",
		"a and b or c":                "a and b or c",
		"not (a and b)":               "not (a and b)",
		"not a and not (b and c)":     "not a | not (b and c)",
		"(a and b) = 1":               "(a and b) = 1",
		"(a and b) is null and c":     "(a and b) is null | c",
		"b match 'x y' and 1 = 2":     "b match 'x y' | 1 = 2",
		"1 and null and 'x'":          "1 | null | 'x'",
		"- (a and b) and (a and b)+1": "- (a and b) | (a and b) + 1",
	} {
		if got := printed(Parts(where(t, s))); got != want {
			t.Errorf("Parts of %q: %q, want %q", s, got, want)
		}
	}
	if l := Parts(nil); len(l) > 0 {
		t.Errorf("Parts of nil: %q", printed(l))
	}
	if l := Parts(pair(api.And, nil, col("a"))); printed(l) != "a" {
		t.Errorf("Parts of nil and a: %q", printed(l))
	}
	e := where(t, "a or b")
	if l := Parts(e); len(l) != 1 || l[0] != e {
		t.Errorf("Parts of %q: not it", parse.Expr(e))
	}
}

// TestFold: 11.3: a part folds, all of it, or nothing: because of a column, words, or an error.
func TestFold(t *testing.T) {
	for s, want := range map[string]string{
		"7":                              "7",
		"null":                           "null",
		"'x'":                            "'x'",
		"a":                              "a",
		"b match 'x'":                    "b match 'x'",
		"1 + 2":                          "3",
		"1 + 2 * 3 - 4":                  "3",
		"- 5":                            "-5",
		"- - 5":                          "5",
		"not 1":                          "0",
		"not null":                       "null",
		"null is null":                   "1",
		"'x' is not null":                "1",
		"null + 1":                       "null",
		"null = null":                    "null",
		"null and 0":                     "0",
		"null or 0":                      "null",
		"'a' < 'b'":                      "1",
		"'a' < 'b' and 2 > 1 or 'c'='d'": "1",
		"a + 1":                          "a + 1",
		"a + (1 + 2)":                    "a + 3",
		"a + 1 + 2":                      "a + 1 + 2",
		"1 + 2 + a":                      "3 + a",
		"1 + a + 2":                      "1 + a + 2",
		"a = 2 * 3":                      "a = 6",
		"a = - 3":                        "a = -3",
		"2 * 3 = a and 1 = 1":            "6 = a and 1",
		"a and 0":                        "a and 0",
		"0 and a":                        "0 and a",
		"1 or a":                         "1 or a",
		"a * 0":                          "a * 0",
		"a is null and null is null":     "a is null and 1",
		"b match 'x' or not (1 = 2)":     "b match 'x' or 1",
		"not (b match 'x')":              "not b match 'x'",
		"9223372036854775807 + 1":        "9223372036854775807 + 1",
		"9223372036854775806 + 1":        "9223372036854775807",
		"- 9223372036854775807 - 1":      "-9223372036854775808",
		"- (- 9223372036854775807 - 1)":  "- -9223372036854775808",
		"- 9223372036854775807 - 2":      "-9223372036854775807 - 2",
		"4294967296 * 4294967296":        "4294967296 * 4294967296",
		"- 'x'":                          "- 'x'",
		"not 'x'":                        "not 'x'",
		"'x' + 1":                        "'x' + 1",
		"null * 'x'":                     "null * 'x'",
		"0 and 'x'":                      "0 and 'x'",
		"'x' or 1":                       "'x' or 1",
		"('x' + 1) is null":              "'x' + 1 is null",
		"'x' + 1 = 2 + 3":                "'x' + 1 = 5",
		"0 and (1 + 2 = 'x' + 1)":        "0 and 3 = 'x' + 1",
		"1 = 1 and - 'x'":                "1 and - 'x'",
		"not (- 'x' = 1 + 1)":            "not - 'x' = 2",
		"(1 = 1) + (2 = 2)":              "2",
		"(a = 1 + 1) + (2 = 2)":          "(a = 2) + 1",
	} {
		f := Fold(where(t, s))
		if got := parse.Expr(f); got != want {
			t.Errorf("Fold of %q: %q, want %q", s, got, want)
		}
		if again := Fold(f); !reflect.DeepEqual(again, f) {
			t.Errorf("Fold of %q: %q, and then %q", s, want, parse.Expr(again))
		}
	}
	if f := Fold(nil); f != nil {
		t.Errorf("Fold of nil: %s", show(f))
	}
}

// TestFoldedLit: 11.3, P2: what is folded is a Lit, with nothing else in it.
func TestFoldedLit(t *testing.T) {
	for s, want := range map[string]api.Value{"1 + 2": num(3), "null + 2": nothing, "- 5": num(-5), "2 < 1": num(0), "'x' = 'x'": num(1)} {
		if f := Fold(where(t, s)); *f != (api.Expr{Code: api.Lit, Value: want}) {
			t.Errorf("Fold of %q: %s, want %v", s, show(f), want)
		}
	}
}

// TestFoldNone: P1: what is no expression folds to itself, but for what does fold in it.
func TestFoldNone(t *testing.T) {
	for _, wrong := range wrongs() {
		for _, e := range []*api.Expr{wrong, one(api.Neg, wrong), one(api.IsNull, wrong), pair(api.Add, wrong, lit(num(1))), pair(api.And, lit(num(1)), wrong), pair(17, wrong, wrong), pair(99, lit(num(1)), lit(num(1)))} {
			if f := Fold(e); !reflect.DeepEqual(f, e) {
				t.Errorf("Fold of %s: %s", show(e), show(f))
			}
			Columns(e)
			Parts(e)
		}
	}
	e := pair(99, where(t, "1 + 1"), nil)
	if f := Fold(e); !reflect.DeepEqual(f, pair(99, lit(num(2)), nil)) {
		t.Errorf("Fold of %s: %s", show(e), show(f))
	}
}

// TestSets: 11.3: Parse tells what is set as a Col with what it is set to beneath it: that has columns, and folds, too.
func TestSets(t *testing.T) {
	x, err := parse.Parse("update t set a = b + (1 + 2), b = 2 * 3, c = a")
	if err != nil {
		t.Fatal(err)
	}
	for i, want := range []struct{ columns, value string }{{"a b", "b + 3"}, {"b", "6"}, {"c a", "a"}} {
		e := x.Sets[i]
		if got := strings.Join(Columns(e), " "); got != want.columns {
			t.Errorf("%s: columns %q, want %q", show(e), got, want.columns)
		}
		if f := Fold(e); f.Code != api.Col || f.Name != e.Name || f.Right != nil || parse.Expr(f.Left) != want.value {
			t.Errorf("%s folds to %s, want %s", show(e), show(f), want.value)
		}
		if l := Parts(e); len(l) != 1 || l[0] != e {
			t.Errorf("%s: %d parts", show(e), len(l))
		}
	}
}

// TestFresh: P4: lists that come out are the caller's, and so is what is folded; expressions are not written into, nor kept.
func TestFresh(t *testing.T) {
	e := where(t, "a + (1 + 2) = 'x' and b match 'y' and c")
	before := show(e)
	names, parts, f := Columns(e), Parts(e), Fold(e)
	fold := show(f)
	names = append(names[:cap(names)], "more")
	parts = append(parts[:cap(parts)], col("more"))
	clear(names)
	clear(parts)
	if got := strings.Join(Columns(e), " "); got != "a b c" {
		t.Errorf("Columns: %q", got)
	}
	if got := printed(Parts(e)); got != "a + (1 + 2) = 'x' | b match 'y' | c" {
		t.Errorf("Parts: %q", got)
	}
	overwrite(f)
	if got := show(e); got != before {
		t.Errorf("%s, want %s", got, before)
	}
	if got := show(Fold(e)); got != fold {
		t.Errorf("Fold: %s, want %s", got, fold)
	}
	f = Fold(e)
	overwrite(e)
	if got := show(f); got != fold {
		t.Errorf("Fold, kept: %s, want %s", got, fold)
	}
}

// overwrite spoils all of an expression.
func overwrite(e *api.Expr) {
	if e == nil {
		return
	}
	overwrite(e.Left)
	overwrite(e.Right)
	*e = api.Expr{Code: 99, Name: "spoilt"}
}

// TestTextsAreCopies: P4: a text that comes out shares no memory with one that was handed in.
func TestTextsAreCopies(t *testing.T) {
	b := []byte("name")
	lent := unsafe.String(&b[0], len(b))
	env := Env{Col: func(string) (api.Value, error) { return str(lent), nil }}
	v, err := Eval(lit(str(lent)), Env{})
	w, errCol := Eval(col(lent), env)
	names := Columns(pair(api.Eq, col(lent), match(lent, lent)))
	f := Fold(pair(api.Eq, col(lent), lit(str(lent))))
	clear(b)
	if err != nil || errCol != nil || v != str("name") || w != str("name") || !slices.Equal(names, []string{"name", "name"}) || parse.Expr(f) != "name = 'name'" {
		t.Errorf("%v, %v, %v, %v, %q, %q", v, err, w, errCol, names, parse.Expr(f))
	}
}

// TestAnyTime: P4: what is answered hangs on what is given alone: asked again, it is the same.
func TestAnyTime(t *testing.T) {
	d := die(5)
	var l []*api.Expr
	var first []string
	all := func(e *api.Expr) string {
		v, err := Eval(e, someRow().env())
		return strings.Join([]string{parse.Literal(v), api.Tell(err).Error(), strings.Join(Columns(e), " "), printed(Parts(e)), show(Fold(e))}, "; ")
	}
	for range 300 {
		e := d.expr(4, false)
		l = append(l, e)
		first = append(first, all(e))
	}
	for i := len(l) - 1; i >= 0; i-- {
		if again := all(l[i]); again != first[i] {
			t.Errorf("%s: %s, then %s", show(l[i]), first[i], again)
		}
	}
}

// deep is an expression of so many of these in one another.
func deep(n int, inner *api.Expr, around func(*api.Expr) *api.Expr) *api.Expr {
	for range n {
		inner = around(inner)
	}
	return inner
}

// TestDeep: Limits: 2^16 parts nested in one another, on either side.
func TestDeep(t *testing.T) {
	const most = 1<<16 - 2
	for name, around := range map[string]func(*api.Expr) *api.Expr{
		"left":  func(e *api.Expr) *api.Expr { return pair(api.Add, e, lit(num(1))) },
		"right": func(e *api.Expr) *api.Expr { return pair(api.Add, lit(num(1)), e) },
	} {
		e := deep(most, col("a"), around)
		got, err := Eval(e, someRow().env())
		same(t, name, got, err, num(3+most), api.OK)
		if l := Columns(Fold(e)); !slices.Equal(l, []string{"a"}) {
			t.Errorf("%s: %q", name, l)
		}
		if f := Fold(deep(most, lit(num(3)), around)); *f != *lit(num(3 + most)) {
			t.Errorf("%s: not folded", name)
		}
	}
	for name, around := range map[string]func(*api.Expr) *api.Expr{
		"left and":  func(e *api.Expr) *api.Expr { return pair(api.And, e, col("a")) },
		"right and": func(e *api.Expr) *api.Expr { return pair(api.And, col("a"), e) },
	} {
		e := deep(most, col("a"), around)
		if n, m := len(Parts(e)), len(Columns(e)); n != most+1 || m != most+1 {
			t.Errorf("%s: %d parts, %d columns", name, n, m)
		}
		got, err := Eval(e, someRow().env())
		same(t, name, got, err, num(1), api.OK)
	}
	e := deep(most, col("a"), func(e *api.Expr) *api.Expr { return one(api.Neg, e) })
	got, err := Eval(e, someRow().env())
	same(t, "neg", got, err, num(3), api.OK)
}
