package eval

import (
	"errors"
	"fmt"
	"math"
	"reflect"
	"slices"
	"testing"

	"concordance/api"
	"concordance/parse"
	"concordance/value"
)

// die: numbers that look drawn, the same each time.
type die uint64

func (d *die) below(n int) int {
	*d = *d*6364136223846793005 + 1442695040888963407
	return int(uint64(*d>>33) % uint64(n))
}

// number is one of any size.
func (d *die) number() int64 {
	n := int64(d.below(1<<31))<<33 ^ int64(d.below(1<<31))<<8 ^ int64(d.below(256))
	return n >> d.below(64)
}

// signs are the codes, as they are shown.
var signs = map[int]string{
	api.Lit: "lit", api.Col: "col", api.Neg: "neg", api.Not: "not", api.IsNull: "null?", api.Add: "+", api.Sub: "-", api.Mul: "*", api.Eq: "=", api.Ne: "<>", api.Lt: "<", api.Le: "<=", api.Gt: ">", api.Ge: ">=", api.And: "and", api.Or: "or", api.Match: "match",
}

// named shows a code of two values.
func named(code int, a, b api.Value) string {
	return fmt.Sprintf("(%s %s %s)", signs[code], parse.Literal(a), parse.Literal(b))
}

// show is an expression, each code ahead of what it is of, with all that it has.
func show(e *api.Expr) string {
	if e == nil {
		return "nil"
	}
	s := signs[e.Code]
	if s == "" {
		s = fmt.Sprint("none", e.Code)
	}
	if e.Value != nothing || e.Code == api.Lit {
		s += " " + parse.Literal(e.Value)
	}
	if e.Name != "" {
		s += " " + e.Name
	}
	if e.Left != nil || e.Right != nil {
		s += " " + show(e.Left)
	}
	if e.Right != nil {
		s += " " + show(e.Right)
	}
	return "(" + s + ")"
}

func lit(v api.Value) *api.Expr { return &api.Expr{Code: api.Lit, Value: v} }

func col(name string) *api.Expr { return &api.Expr{Code: api.Col, Name: name} }

func match(name, text string) *api.Expr {
	return &api.Expr{Code: api.Match, Left: col(name), Value: str(text)}
}

func one(code int, e *api.Expr) *api.Expr { return &api.Expr{Code: code, Left: e} }

func pair(code int, a, b *api.Expr) *api.Expr { return &api.Expr{Code: code, Left: a, Right: b} }

// is says whether a code is one of these.
func is(code int, l ...int) bool { return slices.Contains(l, code) }

// row is what columns have, and which words are found: all else is told to be wrong. What was asked is noted.
type row struct {
	cols  map[string]api.Value
	found map[string]bool
	asked []string
}

// errWord is what is told of words that nobody knows: no Errno, so that it is seen whether it comes out as it is.
var errWord = errors.New("no such word")

func (r *row) col(name string) (api.Value, error) {
	r.asked = append(r.asked, name)
	if v, ok := r.cols[name]; ok {
		return v, nil
	}
	return num(77), api.ErrName
}

func (r *row) match(name, text string) (bool, error) {
	r.asked = append(r.asked, name+" "+text)
	if found, ok := r.found[text]; ok {
		return found, nil
	}
	return true, errWord
}

func (r *row) env() Env { return Env{Col: r.col, Match: r.match} }

// comes is what 11.2 asks of an expression: its own way, not the program's.
func (r *row) comes(e *api.Expr) (api.Value, error) {
	switch {
	case e == nil, signs[e.Code] == "", e.Code == api.Match && (e.Left == nil || e.Left.Code != api.Col):
		return nothing, api.ErrForm
	case e.Code == api.Lit:
		return e.Value, nil
	case e.Code == api.Col:
		return only(r.col(e.Name))
	case e.Code == api.Match:
		found, err := r.match(e.Left.Name, e.Value.Text)
		return only(yes(found), err)
	}
	sides := []*api.Expr{e.Left, e.Right}
	if is(e.Code, api.Neg, api.Not, api.IsNull) {
		sides = sides[:1]
	}
	var l []api.Value
	for _, side := range sides {
		v, err := r.comes(side)
		if err != nil {
			return nothing, err
		}
		l = append(l, v)
	}
	return together(e.Code, l)
}

// only is a value, if there is no error.
func only(v api.Value, err error) (api.Value, error) {
	if err != nil {
		return nothing, err
	}
	return v, nil
}

func yes(so bool) api.Value { return num(map[bool]int64{true: 1}[so]) }

// together is what values come to: by 11.1 alone.
func together(code int, l []api.Value) (api.Value, error) {
	has := func(kind int) bool {
		return slices.ContainsFunc(l, func(v api.Value) bool { return v.Kind == kind })
	}
	counting := is(code, api.Neg, api.Add, api.Sub, api.Mul)
	holding := is(code, api.Not, api.And, api.Or)
	of := [...]api.Value{num(0), nothing, num(1)}
	switch {
	case code == api.IsNull:
		return yes(l[0] == nothing), nil
	case (counting || holding) && has(api.Text):
		return nothing, api.ErrArg
	case code == api.Not:
		return of[2-level(l[0])], nil
	case code == api.And:
		return of[min(level(l[0]), level(l[1]))], nil
	case code == api.Or:
		return of[max(level(l[0]), level(l[1]))], nil
	case has(api.Null):
		return nothing, nil
	case !counting:
		return yes(compared(code, l[0], l[1])), nil
	case code == api.Neg:
		code, l = api.Sub, []api.Value{num(0), l[0]}
	}
	n := exactly(code, l[0].Num, l[1].Num)
	if !n.IsInt64() {
		return nothing, api.ErrRange
	}
	return num(n.Int64()), nil
}

// compared is whether a question holds: values have the order of their bytes (1.2).
func compared(code int, a, b api.Value) bool {
	x, _ := value.Key([]api.Value{a})
	y, _ := value.Key([]api.Value{b})
	return map[int]bool{api.Eq: x == y, api.Ne: x != y, api.Lt: x < y, api.Le: x <= y, api.Gt: x > y, api.Ge: x >= y}[code]
}

// folded is what 11.3 asks of Fold, from without: a part in which no column stands, and which comes to something, is that; else its sides are folded.
func folded(e *api.Expr) *api.Expr {
	if e == nil {
		return nil
	}
	if !is(e.Code, api.Lit, api.Col, api.Match) && len(names(e)) == 0 {
		if v, err := new(row).comes(e); err == nil {
			return lit(v)
		}
	}
	x := *e
	x.Left, x.Right = folded(e.Left), folded(e.Right)
	return &x
}

// names are the names of all columns: those of the left side, then those of the right one.
func names(e *api.Expr) []string {
	if e == nil {
		return nil
	}
	l := append(names(e.Left), names(e.Right)...)
	if e.Code == api.Col {
		return append([]string{e.Name}, l...)
	}
	return l
}

// sides are the parts of an expression.
func sides(e *api.Expr) []*api.Expr {
	switch {
	case e == nil:
		return nil
	case e.Code == api.And:
		return append(sides(e.Left), sides(e.Right)...)
	}
	return []*api.Expr{e}
}

// someRow has values of all kinds, and words that are found or not.
func someRow() *row {
	return &row{cols: map[string]api.Value{"a": num(3), "b": str("x"), "c": nothing, "t.a": num(0), "most": num(math.MaxInt64), "least": num(math.MinInt64)}, found: map[string]bool{"in": true, "out": false}}
}

// agrees fails, unless Eval tells of an expression what the document asks, asks columns in that order, and leaves the expression as it is.
func agrees(t *testing.T, e *api.Expr) {
	t.Helper()
	before := show(e)
	model, asked := someRow(), someRow()
	want, wantErr := model.comes(e)
	got, err := Eval(e, asked.env())
	if got != want || err != wantErr {
		t.Fatalf("%s comes to %v, %v, want %v, %v", before, got, err, want, wantErr)
	}
	if !slices.Equal(asked.asked, model.asked) {
		t.Fatalf("%s asks %q, want %q", before, asked.asked, model.asked)
	}
	if after := show(e); after != before {
		t.Fatalf("%s was made %s", before, after)
	}
}

// folding fails, unless Fold, Columns and Parts tell of an expression what the document asks: folded it comes to the same, and it is folded then.
func folding(t *testing.T, e *api.Expr) {
	t.Helper()
	before := show(e)
	f := Fold(e)
	if want := folded(e); !reflect.DeepEqual(f, want) {
		t.Fatalf("%s folds to %s, want %s", before, show(f), show(want))
	}
	if again := Fold(f); !reflect.DeepEqual(again, f) {
		t.Fatalf("%s folds to %s, and that to %s", before, show(f), show(again))
	}
	r, s := someRow(), someRow()
	v, err := Eval(e, r.env())
	w, errFolded := Eval(f, s.env())
	if v != w || err != errFolded || !slices.Equal(r.asked, s.asked) {
		t.Fatalf("%s comes to %v, %v (asked %q), folded %v, %v (asked %q)", before, v, err, r.asked, w, errFolded, s.asked)
	}
	if got, want := Columns(e), names(e); !slices.Equal(got, want) || !slices.Equal(Columns(f), want) {
		t.Fatalf("%s has columns %q, folded %q, want %q", before, got, Columns(f), want)
	}
	if got, want := Parts(e), sides(e); !slices.Equal(got, want) {
		t.Fatalf("%s has %d parts, want %d", before, len(got), len(want))
	}
	if after := show(e); after != before {
		t.Fatalf("%s was made %s", before, after)
	}
}

// leaves are what has nothing beneath it.
func leaves() []*api.Expr {
	l := []*api.Expr{col("a"), col("b"), col("c"), col("t.a"), col("most"), col("none"), match("b", "in"), match("b", "out"), match("b", "?")}
	for _, v := range []api.Value{nothing, num(0), num(1), num(-1), num(3), num(math.MinInt64), num(math.MaxInt64), str(""), str("x"), str("3")} {
		l = append(l, lit(v))
	}
	return l
}

// wrongs are no expressions.
func wrongs() []*api.Expr {
	return []*api.Expr{nil, {}, {Code: -1, Left: col("a")}, {Code: api.Match + 1, Left: col("a"), Right: col("a")}, {Code: api.Match}, {Code: api.Match, Left: lit(str("b")), Value: str("in")}, {Code: api.Match, Left: one(api.Neg, col("b")), Right: col("b")}, {Code: api.Match, Left: match("b", "in")}}
}

// ones and twos are the codes of one side, and of two.
var (
	ones = []int{api.Neg, api.Not, api.IsNull}
	twos = slices.Concat(counts, compares, boths)
)

// above are all expressions of one code over these: on both sides any two of them.
func above(l []*api.Expr) []*api.Expr {
	var all []*api.Expr
	for _, code := range ones {
		for _, e := range l {
			all = append(all, one(code, e))
		}
	}
	for _, code := range twos {
		for _, a := range l {
			for _, b := range l {
				all = append(all, pair(code, a, b))
			}
		}
	}
	return all
}

// TestEvalAll: 11.2: every expression of at most two codes in one another over some leaves, wrong ones among them, as the document asks.
func TestEvalAll(t *testing.T) {
	for _, e := range above(append(leaves(), wrongs()...)) {
		agrees(t, e)
		agrees(t, e.Left)
	}
	few := []*api.Expr{nil, {Code: -7}, col("a"), col("none"), match("b", "in"), match("b", "?"), lit(nothing), lit(num(0)), lit(num(math.MinInt64)), lit(str("x"))}
	for _, inner := range above(few) {
		for _, code := range ones {
			agrees(t, one(code, inner))
		}
		for _, code := range twos {
			for _, leaf := range few {
				agrees(t, pair(code, inner, leaf))
				agrees(t, pair(code, leaf, inner))
			}
		}
	}
}

// TestFoldAll: 11.3: every expression of at most two codes in one another over some leaves.
func TestFoldAll(t *testing.T) {
	for _, e := range leaves() {
		folding(t, e)
	}
	few := []*api.Expr{col("a"), match("b", "in"), lit(nothing), lit(num(2)), lit(num(math.MinInt64)), lit(str("x"))}
	for _, inner := range above(few) {
		folding(t, inner)
		for _, code := range ones {
			folding(t, one(code, inner))
		}
		for _, code := range twos {
			for _, leaf := range few {
				folding(t, pair(code, inner, leaf))
				folding(t, pair(code, leaf, inner))
			}
		}
	}
}

// expr is an expression of at most so many codes in one another; of wrong ones there are few.
func (d *die) expr(deep int, wrong bool) *api.Expr {
	switch n := d.below(20); {
	case wrong && n == 0 && d.below(4) == 0:
		l := wrongs()
		return l[d.below(len(l))]
	case deep == 0 || n < 4:
		l := leaves()
		return l[d.below(len(l))]
	case n < 8:
		return one(ones[d.below(len(ones))], d.expr(deep-1, wrong))
	}
	return pair(twos[d.below(len(twos))], d.expr(deep-1, wrong), d.expr(deep-1, wrong))
}

// TestDrawn: 11.2, 11.3: greater expressions, drawn.
func TestDrawn(t *testing.T) {
	d := die(11)
	for range 8000 {
		agrees(t, d.expr(6, true))
		e := d.expr(6, false)
		agrees(t, e)
		folding(t, e)
	}
}
