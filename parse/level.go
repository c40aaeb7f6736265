package parse

import "concordance/api"

// Levels: how tight an expression holds together. What stands in another one of a tighter level must have ( and ) around it.
const (
	ofOr = iota + 1
	ofAnd
	ofNot
	ofAsk
	ofSum
	ofProd
	ofMinus
	ofOne
)

// pairs are the codes that are of two, with the sign between both, and their level.
var pairs = [...]struct {
	code  int
	sign  string
	level int
}{
	{api.Or, "or", ofOr},
	{api.And, "and", ofAnd},
	{api.Eq, "=", ofAsk},
	{api.Ne, "<>", ofAsk},
	{api.Lt, "<", ofAsk},
	{api.Le, "<=", ofAsk},
	{api.Gt, ">", ofAsk},
	{api.Ge, ">=", ofAsk},
	{api.Add, "+", ofSum},
	{api.Sub, "-", ofSum},
	{api.Mul, "*", ofProd},
}

// paired is the sign and the level of a code that is of two.
func paired(code int) (sign string, level int, ok bool) {
	for _, p := range pairs {
		if p.code == code {
			return p.sign, p.level, true
		}
	}
	return "", 0, false
}

// levelOf is how tight an expression holds together, as it is written.
func levelOf(e *api.Expr) int {
	switch e.Code {
	case api.Not: // is not null holds tighter, but where a Not may stand, it may, and nowhere else
		return ofNot
	case api.IsNull, api.Match:
		return ofAsk
	case api.Neg:
		return ofMinus
	}
	if _, l, ok := paired(e.Code); ok {
		return l
	}
	return ofOne
}
