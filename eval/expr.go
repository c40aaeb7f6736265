package eval

import (
	"strings"

	"concordance/api"
)

// whole is an Env of which all may be asked: what nobody tells is not there.
func (env Env) whole() Env {
	if env.Col == nil {
		env.Col = func(string) (api.Value, error) { return api.Value{}, api.ErrMissing }
	}
	if env.Match == nil {
		env.Match = func(string, string) (bool, error) { return false, api.ErrMissing }
	}
	return env
}

// come is what an expression comes to. Beside an error the value may be anything, as it is somebody else's who tells what columns have.
func (env Env) come(e *api.Expr) (api.Value, error) {
	if !formed(e) {
		return api.Value{}, api.ErrForm
	}
	switch e.Code {
	case api.Lit:
		return e.Value, nil
	case api.Col:
		return env.Col(e.Name)
	case api.Match:
		found, err := env.Match(e.Left.Name, e.Value.Text)
		return truth(found), err
	}
	left, err := env.come(e.Left)
	if err != nil {
		return api.Value{}, err
	}
	switch e.Code {
	case api.Neg:
		return Count(api.Sub, number(0), left)
	case api.Not:
		return not(left)
	case api.IsNull:
		return truth(left.Kind == api.Null), nil
	}
	right, err := env.come(e.Right)
	if err != nil {
		return api.Value{}, err
	}
	return two(e.Code, left, right)
}

// formed says whether an expression is one, whatever is beneath it.
func formed(e *api.Expr) bool {
	if e == nil || e.Code < api.Lit || e.Code > api.Match {
		return false
	}
	return e.Code != api.Match || e.Left != nil && e.Left.Code == api.Col
}

// two is what a code of two sides comes to.
func two(code int, left, right api.Value) (api.Value, error) {
	switch code {
	case api.Add, api.Sub, api.Mul:
		return Count(code, left, right)
	case api.And, api.Or:
		return Both(code, left, right)
	}
	return Compare(code, left, right), nil
}

// own is a value with a text of its own, as an answer shares no memory with what was handed in.
func own(v api.Value) api.Value {
	v.Text = strings.Clone(v.Text)
	return v
}

// walk goes through an expression, from left to right: to what is beneath a part only if the visit of that part says so.
func walk(e *api.Expr, visit func(part *api.Expr) bool) {
	if e == nil || !visit(e) {
		return
	}
	walk(e.Left, visit)
	walk(e.Right, visit)
}

// folds says whether a part may be folded, of which all beneath is folded already: it has only Lits there. Looking no deeper, each part is asked once.
func folds(part *api.Expr) bool {
	switch part.Code {
	case api.Lit, api.Col, api.Match:
		return false
	}
	return literal(part.Left) && literal(part.Right)
}

// literal says whether a side is a value, or not there at all.
func literal(e *api.Expr) bool { return e == nil || e.Code == api.Lit }
