package parse

import (
	"strconv"

	"concordance/api"
	"concordance/lex"
)

// limitDigits is how many digits there are at most behind limit.
const limitDigits = 9

// noLimit is the Limit of a statement that has none, also of one that can have none.
const noLimit = -1

// of is a statement of which nothing but its kind and its table is told.
func of(kind int, table string) api.Statement {
	return api.Statement{Kind: kind, Table: table, Limit: noLimit}
}

// read reads a whole statement, of which these are the tokens. It throws.
func read(l []lex.Token) api.Statement {
	r := &reader{l}
	x := r.statement()
	r.has(";")
	r.must(r.now().Kind == lex.End)
	return x
}

func (r *reader) statement() api.Statement {
	switch {
	case r.has("begin"):
		return of(api.Begin, "")
	case r.has("commit"):
		return of(api.Commit, "")
	case r.has("rollback"):
		return of(api.Rollback, "")
	case r.has("create"):
		return r.create()
	case r.has("drop"):
		r.need("table")
		return of(api.Drop, r.name())
	case r.has("insert"):
		return r.insert()
	case r.has("delete"):
		return r.delete()
	case r.has("update"):
		return r.update()
	}
	r.need("select")
	return r.choice()
}

func (r *reader) create() api.Statement {
	if r.has("index") {
		r.need("on")
		x := of(api.Index, r.name())
		r.inside(func() { x.Name = r.name() })
		return x
	}
	r.need("table")
	x := of(api.Create, r.name())
	r.inside(func() {
		r.list(func() { x.Columns = append(x.Columns, r.column()) })
	})
	return x
}

func (r *reader) column() api.Column {
	c := api.Column{Name: r.name(), Kind: api.Int}
	if !r.has("int") {
		r.need("text")
		c.Kind = api.Text
	}
	if r.has("not") {
		r.need("null")
		c.Must = true
	}
	c.Words = c.Kind == api.Text && r.has("words")
	return c
}

func (r *reader) insert() api.Statement {
	r.need("into")
	x := of(api.Insert, r.name())
	r.need("values")
	r.list(func() { x.Rows = append(x.Rows, r.row()) })
	return x
}

func (r *reader) row() []*api.Expr {
	var l []*api.Expr
	r.inside(func() {
		r.list(func() { l = append(l, r.expr(0)) })
	})
	return l
}

func (r *reader) delete() api.Statement {
	r.need("from")
	x := of(api.Delete, r.name())
	x.Where = r.behind("where")
	return x
}

func (r *reader) update() api.Statement {
	x := of(api.Update, r.name())
	r.need("set")
	r.list(func() {
		c := &api.Expr{Code: api.Col, Name: r.name()}
		r.need("=")
		c.Left = r.expr(0)
		x.Sets = append(x.Sets, c)
	})
	x.Where = r.behind("where")
	return x
}

// behind is the E behind a word, which may be missing, and the E with it.
func (r *reader) behind(word string) *api.Expr {
	if !r.has(word) {
		return nil
	}
	return r.expr(0)
}

// choice reads what stands behind select.
func (r *reader) choice() api.Statement {
	x := of(api.Select, "")
	if !r.has("*") {
		r.list(func() { x.Items = append(x.Items, r.item()) })
	}
	r.need("from")
	x.Table = r.name()
	if r.has("join") {
		x.Other = r.name()
		r.need("on")
		x.On = r.expr(0)
	}
	x.Where = r.behind("where")
	if r.has("group") {
		r.need("by")
		x.Group = r.expr(0)
	}
	if r.has("order") {
		r.need("by")
		r.list(func() { x.Order = append(x.Order, r.rank()) })
	}
	if r.has("limit") {
		x.Limit = r.limit()
	}
	return x
}

func (r *reader) item() api.Item {
	x := api.Item{}
	switch {
	case r.has("count"):
		x.Of = api.Count
	case r.has("sum"):
		x.Of = api.Sum
	case r.has("min"):
		x.Of = api.Min
	case r.has("max"):
		x.Of = api.Max
	default:
		return api.Item{Expr: r.expr(0)}
	}
	r.inside(func() {
		if x.Of != api.Count || !r.has("*") {
			x.Expr = r.expr(0)
		}
	})
	return x
}

func (r *reader) rank() api.Rank {
	x := api.Rank{}
	if !r.has("rank") {
		x.Expr = r.expr(0)
	}
	if !r.has("asc") {
		x.Down = r.has("desc")
	}
	return x
}

// limit takes the N behind limit.
func (r *reader) limit() int {
	k := r.now()
	r.must(k.Kind == lex.Number)
	r.atMost(len(k.Text), limitDigits)
	r.take()
	n, _ := strconv.Atoi(k.Text)
	return n
}
