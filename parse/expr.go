package parse

import (
	"strconv"

	"concordance/api"
	"concordance/lex"
)

// expr reads an E that stands in so many of (, not and -.
func (r *reader) expr(deep int) *api.Expr {
	return r.chain(ofOr, func() *api.Expr { return r.both(deep) })
}

func (r *reader) both(deep int) *api.Expr {
	return r.chain(ofAnd, func() *api.Expr { return r.not(deep) })
}

func (r *reader) not(deep int) *api.Expr {
	if !r.is("not") {
		return r.ask(deep)
	}
	r.atMost(deep, api.MaxDepth)
	r.take()
	return &api.Expr{Code: api.Not, Left: r.not(deep + 1)}
}

func (r *reader) ask(deep int) *api.Expr {
	e := r.sum(deep)
	switch code := r.between(ofAsk); {
	case code != 0:
		return &api.Expr{Code: code, Left: e, Right: r.sum(deep)}
	case r.has("is"):
		return r.null(e)
	case e.Code == api.Col && r.has("match"): // ( and ) leave nothing behind: a column in them is one, too
		return &api.Expr{Code: api.Match, Left: e, Value: r.text()}
	}
	return e
}

// null reads what stands behind is.
func (r *reader) null(of *api.Expr) *api.Expr {
	e := &api.Expr{Code: api.IsNull, Left: of}
	if r.has("not") {
		e = &api.Expr{Code: api.Not, Left: e}
	}
	r.need("null")
	return e
}

func (r *reader) sum(deep int) *api.Expr {
	return r.chain(ofSum, func() *api.Expr { return r.prod(deep) })
}

func (r *reader) prod(deep int) *api.Expr {
	return r.chain(ofProd, func() *api.Expr { return r.minus(deep) })
}

func (r *reader) minus(deep int) *api.Expr {
	if !r.is("-") {
		return r.one(deep)
	}
	r.atMost(deep, api.MaxDepth)
	r.take()
	return &api.Expr{Code: api.Neg, Left: r.minus(deep + 1)}
}

func (r *reader) one(deep int) *api.Expr {
	kind := r.now().Kind
	// That it may not stand there at all is told ahead of its standing too deep.
	r.must(r.is("(") || r.is("null") || kind == lex.Number || kind == lex.String || r.isName())
	r.atMost(deep, api.MaxDepth)
	switch {
	case kind == lex.Number:
		return &api.Expr{Code: api.Lit, Value: r.number()}
	case kind == lex.String:
		return &api.Expr{Code: api.Lit, Value: r.text()}
	case r.has("null"):
		return &api.Expr{Code: api.Lit}
	case r.is("("):
		var e *api.Expr
		r.inside(func() { e = r.expr(deep + 1) })
		return e
	}
	return r.col()
}

// col reads a NAME, or two with a point between them.
func (r *reader) col() *api.Expr {
	s := r.name()
	if r.has(".") {
		s += "." + r.name()
	}
	return &api.Expr{Code: api.Col, Name: s}
}

// number takes an N. It has digits alone: all that can be wrong with it is that there are too many.
func (r *reader) number() api.Value {
	n, err := strconv.ParseInt(r.now().Text, 10, 64)
	if err != nil {
		panic(wrong{api.ErrLimit, r.now().At})
	}
	r.take()
	return api.Value{Kind: api.Int, Num: n}
}

// text takes an S.
func (r *reader) text() api.Value {
	k := r.now()
	r.must(k.Kind == lex.String)
	v := api.Value{Kind: api.Text, Text: k.Text}
	if !Right(v) {
		panic(wrong{api.ErrLimit, k.At})
	}
	r.take()
	return v
}

// chain reads what holds tighter than this level, with signs of this level between: from the left.
func (r *reader) chain(level int, next func() *api.Expr) *api.Expr {
	e := next()
	for code := r.between(level); code != 0; code = r.between(level) {
		e = &api.Expr{Code: code, Left: e, Right: next()}
	}
	return e
}

// between is the code whose sign of this level stands there (0: none does); then it is taken.
func (r *reader) between(level int) int {
	for _, p := range pairs {
		if p.level == level && r.has(p.sign) {
			return p.code
		}
	}
	return 0
}
