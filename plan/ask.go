package plan

import (
	"slices"
	"strings"

	"concordance/api"
	"concordance/catalog"
)

// ask is a part that asks how a column with an index stands to a value.
type ask struct {
	code   int
	column string
	value  api.Value
}

// name is the column's, in memory of its own, as a plan is the caller's.
func (a ask) name() string { return strings.Clone(a.column) }

// bound is the value, likewise.
func (a ask) bound() *api.Value {
	v := a.value
	v.Text = strings.Clone(v.Text)
	return &v
}

// columns tells of an expression where that column stands among a table's; below 0: it is none of them. The table's name ahead is looked for first: a column whose own name looks so, too, can't be meant.
func columns(e catalog.Entry) func(x *api.Expr) int {
	return func(x *api.Expr) int {
		if x == nil || x.Code != api.Col {
			return -1
		}
		if name, pointed := strings.CutPrefix(x.Name, e.Table.Name+"."); pointed {
			if i := e.Column(name); i >= 0 {
				return i
			}
		}
		return e.Column(x.Name)
	}
}

// asking are the parts that ask a table's columns that have an index.
func asking(t api.Table, parts []*api.Expr, own func(x *api.Expr) int) []ask {
	var l []ask
	for _, part := range parts {
		code, col, lit := part.Code, part.Left, part.Right
		if own(col) < 0 {
			code, col, lit = turned(code), lit, col
		}
		i := own(col)
		if i < 0 || !asks(code) || lit == nil || lit.Code != api.Lit || lit.Value.Kind == api.Null {
			continue
		}
		if column := t.Columns[i].Name; slices.Contains(t.Indexes, column) {
			l = append(l, ask{code, column, lit.Value})
		}
	}
	return l
}

// asks says whether a code asks for values that stand side by side in an index.
func asks(code int) bool {
	switch code {
	case api.Eq, api.Lt, api.Le, api.Gt, api.Ge:
		return true
	}
	return false
}

// turned is what a code asks the other way round.
func turned(code int) int {
	switch code {
	case api.Lt:
		return api.Gt
	case api.Le:
		return api.Ge
	case api.Gt:
		return api.Lt
	case api.Ge:
		return api.Le
	}
	return code
}
