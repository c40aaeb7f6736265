package parse

import (
	"strconv"
	"strings"

	"concordance/api"
)

// writer writes one thing behind the other, so that a long statement is not copied again and again.
type writer struct{ b strings.Builder }

func (w *writer) put(l ...string) {
	for _, s := range l {
		w.b.WriteString(s)
	}
}

// list writes so many things, with a , between them.
func (w *writer) list(n int, put func(i int)) {
	for i := range n {
		if i > 0 {
			w.put(", ")
		}
		put(i)
	}
}

func (w *writer) statement(s api.Statement) {
	switch s.Kind {
	case api.Create:
		w.put("create table ", s.Table, " (")
		w.list(len(s.Columns), func(i int) { w.column(s.Columns[i]) })
		w.put(")")
	case api.Index:
		w.put("create index on ", s.Table, " (", s.Name, ")")
	case api.Drop:
		w.put("drop table ", s.Table)
	case api.Insert:
		w.put("insert into ", s.Table, " values ")
		w.list(len(s.Rows), func(i int) { w.row(s.Rows[i]) })
	case api.Delete:
		w.put("delete from ", s.Table)
		w.behind(" where ", s.Where)
	case api.Update:
		w.put("update ", s.Table, " set ")
		w.list(len(s.Sets), func(i int) { w.set(s.Sets[i]) })
		w.behind(" where ", s.Where)
	case api.Select:
		w.choice(s)
	case api.Begin:
		w.put("begin")
	case api.Commit:
		w.put("commit")
	case api.Rollback:
		w.put("rollback")
	}
}

func (w *writer) column(c api.Column) {
	w.put(c.Name)
	if c.Kind == api.Text {
		w.put(" text")
	} else {
		w.put(" int")
	}
	if c.Must {
		w.put(" not null")
	}
	if c.Words {
		w.put(" words")
	}
}

func (w *writer) row(l []*api.Expr) {
	w.put("(")
	w.list(len(l), func(i int) { w.expr(l[i], ofOr) })
	w.put(")")
}

func (w *writer) set(e *api.Expr) {
	if e != nil {
		w.put(e.Name, " = ")
		w.expr(e.Left, ofOr)
	}
}

// behind writes words, and an expression behind them, if there is one.
func (w *writer) behind(words string, e *api.Expr) {
	if e != nil {
		w.put(words)
		w.expr(e, ofOr)
	}
}

func (w *writer) choice(s api.Statement) {
	w.put("select ")
	if len(s.Items) == 0 {
		w.put("*")
	}
	w.list(len(s.Items), func(i int) { w.item(s.Items[i]) })
	w.put(" from ", s.Table)
	if s.Other != "" {
		w.put(" join ", s.Other)
		w.behind(" on ", s.On)
	}
	w.behind(" where ", s.Where)
	w.behind(" group by ", s.Group)
	if len(s.Order) > 0 {
		w.put(" order by ")
	}
	w.list(len(s.Order), func(i int) { w.rank(s.Order[i]) })
	if s.Limit >= 0 {
		w.put(" limit ", strconv.Itoa(s.Limit))
	}
}

func (w *writer) item(x api.Item) {
	switch x.Of {
	case api.Count:
		w.put("count(")
	case api.Sum:
		w.put("sum(")
	case api.Min:
		w.put("min(")
	case api.Max:
		w.put("max(")
	default:
		w.expr(x.Expr, ofOr)
		return
	}
	if x.Expr == nil {
		w.put("*")
	}
	w.expr(x.Expr, ofOr)
	w.put(")")
}

func (w *writer) rank(x api.Rank) {
	if x.Expr == nil {
		w.put("rank")
	}
	w.expr(x.Expr, ofOr)
	if x.Down {
		w.put(" desc")
	}
}

// expr writes an expression where one of at least this level may stand: in ( and ), if it is of a lower one.
func (w *writer) expr(e *api.Expr, least int) {
	switch {
	case e == nil:
	case levelOf(e) < least:
		w.put("(")
		w.bare(e)
		w.put(")")
	default:
		w.bare(e)
	}
}

// bare writes an expression without ( and ) around it.
func (w *writer) bare(e *api.Expr) {
	switch e.Code {
	case api.Lit:
		w.put(Literal(e.Value))
	case api.Col:
		w.put(e.Name)
	case api.Neg:
		w.put("- ")
		w.expr(e.Left, ofMinus)
	case api.Not:
		w.not(e)
	case api.IsNull:
		w.expr(e.Left, ofSum)
		w.put(" is null")
	case api.Match:
		w.expr(e.Left, ofSum)
		w.put(" match ", Literal(e.Value))
	default:
		w.pair(e)
	}
}

// not writes a Not: of IsNull as one question.
func (w *writer) not(e *api.Expr) {
	if e.Left != nil && e.Left.Code == api.IsNull {
		w.expr(e.Left.Left, ofSum)
		w.put(" is not null")
		return
	}
	w.put("not ")
	w.expr(e.Left, ofNot)
}

// pair writes an expression of two. They go from the left: what stands on the left may be of the same level, but on the right it would be taken to be on the left. Of questions none may be asked of another one.
func (w *writer) pair(e *api.Expr) {
	sign, level, ok := paired(e.Code)
	if !ok {
		return
	}
	left := level
	if level == ofAsk {
		left++
	}
	w.expr(e.Left, left)
	w.put(" ", sign, " ")
	w.expr(e.Right, level+1)
}
