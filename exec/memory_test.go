package exec

import (
	"reflect"
	"slices"
	"testing"
	"unsafe"

	"concordance/api"
)

// scrawl writes over a text's memory. (A text of one byte lies where nobody may write: it stays.)
func scrawl(s string) {
	if len(s) < 2 {
		return
	}
	for i := range len(s) {
		unsafe.Slice(unsafe.StringData(s), len(s))[i] = '!'
	}
}

// copies makes copies of statements in memory of their own, and notes all of it.
type copies struct{ texts []string }

func (c *copies) text(s string) string {
	s = string([]byte(s))
	c.texts = append(c.texts, s)
	return s
}

func (c *copies) expr(e *api.Expr) *api.Expr {
	if e == nil {
		return nil
	}
	v := e.Value
	v.Text = c.text(v.Text)
	return &api.Expr{Code: e.Code, Value: v, Name: c.text(e.Name), Left: c.expr(e.Left), Right: c.expr(e.Right)}
}

// exprs copies a list, with something behind its length.
func (c *copies) exprs(l []*api.Expr) []*api.Expr {
	var m []*api.Expr
	for _, e := range l {
		m = append(m, c.expr(e))
	}
	return append(m, &api.Expr{Code: 77})[:len(l)]
}

func (c *copies) statement(x api.Statement) api.Statement {
	x.Table, x.Other = c.text(x.Table), c.text(x.Other)
	var rows [][]*api.Expr
	for _, row := range x.Rows {
		rows = append(rows, c.exprs(row))
	}
	x.Rows = append(rows, nil)[:len(rows)]
	x.Sets = c.exprs(x.Sets)
	x.On, x.Where, x.Group = c.expr(x.On), c.expr(x.Where), c.expr(x.Group)
	x.Items = append(slices.Clone(x.Items), api.Item{Of: 77})[:len(x.Items)]
	for i := range x.Items {
		x.Items[i].Expr = c.expr(x.Items[i].Expr)
	}
	x.Order = append(slices.Clone(x.Order), api.Rank{Down: true})[:len(x.Order)]
	for i := range x.Order {
		x.Order[i].Expr = c.expr(x.Order[i].Expr)
	}
	return x
}

// behind is all that stands behind the lengths of a statement's lists.
func behind(x api.Statement) (l []any) {
	for _, row := range x.Rows {
		l = append(l, *row[:len(row)+1][len(row)])
	}
	return append(l, x.Rows[:len(x.Rows)+1][len(x.Rows)], *x.Sets[:len(x.Sets)+1][len(x.Sets)], x.Items[:len(x.Items)+1][len(x.Items)], x.Order[:len(x.Order)+1][len(x.Order)])
}

// remembered are statements that name and say much.
const remembered = `
	insert into first values (11, 'some cats', 'more text'), (22, 'other dogs', 'text')
	insert into other values (11, 'some cats'), (33, 'more text')
	insert into first values (33, 'other' + 1, 'cat')
	insert into first values (33, 'other', 44)
	select * from first
	select numb, textual, first.more, 'a literal' from first
	select * from first join other on first.numb = other.numb where textual match 'cats' order by rank, first.more desc
	select min(textual), max(first.more), sum(numb), count(textual), min('a literal') from first group by textual
	select textual from first where textual = 'some cats' or more = 'text' group by more order by textual desc limit 1
	select nothing from first
	select textual from first where textual match '((('
	update first set textual = 'new cats', more = textual where textual match 'some cats'
	update first set more = 'new' where textual = 'other dogs'
	update first set textual = 77
	update first set textual = 'some', textual = 'more'
	delete from first where more = 'new'
	delete from first where more
	select * from first
	select textual from first where textual match 'new'
	select other.textual from other
`

// TestNothingIsKept: P4: no statement is written into, nor what stands behind its lists; and no memory of it is kept, or comes out.
func TestNothingIsKept(t *testing.T) {
	tables := []string{"create table first (numb int, textual text words, more text)", "create index on first (textual)", "create index on first (numb)", "create table other (numb int, textual text)"}
	h, want := built(t, tables...), built(t, tables...)
	for _, s := range lines(remembered) {
		x := statement(t, s)
		var c, d copies
		handed, same := c.statement(x), d.statement(x)
		m := h.pager.Mark()
		n, rows, err := 0, [][]api.Value(nil), error(nil)
		switch x.Kind {
		case api.Insert:
			n, err = Insert(h.Store, handed)
		case api.Delete:
			n, err = Delete(h.Store, handed)
		case api.Update:
			n, err = Update(h.Store, handed)
		default:
			rows, err = Select(h.Store, handed)
		}
		if !reflect.DeepEqual(handed, same) || !reflect.DeepEqual(behind(handed), behind(same)) {
			t.Errorf("%s: it was written into", s)
		}
		for _, text := range c.texts {
			scrawl(text)
		}
		got := done(n, err)
		if x.Kind == api.Select {
			got = written(rows, err)
		}
		mark := want.pager.Mark()
		if told := want.do(s); told != got {
			t.Errorf("%s: %s, want %s", s, got, told)
		}
		if err != nil {
			h.pager.Back(m)
			want.pager.Back(mark)
		}
		want.unchanged(s, h.all())
	}
}

// TestAnswersAreFresh: P4: what comes out is the caller's: no two lists of it, and no two answers, share memory, nor is it the store's.
func TestAnswersAreFresh(t *testing.T) {
	h := built(t, "create table first (numb int, textual text words)", "create table other (more text)",
		"insert into first values (1, 'some cats'), (2, 'some cats'), (3, 'other dogs')", "insert into other values ('text one'), ('text two')", "create index on first (textual)")
	for _, s := range lines(`
		select * from first
		select * from first join other on 1
		select * from first join other on 1 order by more desc limit 4
		select textual, textual, 'a literal', 'a literal' from first
		select textual, more, more from first join other on 1
		select textual, min(textual), max(textual), min('a literal'), max('a literal') from first group by textual
		select * from first where textual = 'some cats'
		select * from first where textual match 'cats' order by textual, rank
		select textual from first group by textual order by textual desc
	`) {
		x := statement(t, s)
		want := h.run(x)
		again, err := Select(h.Store, x)
		if err != nil {
			t.Fatal(err)
		}
		for i := range again {
			for j := range again[i] {
				rows, _ := Select(h.Store, x)
				scrawl(rows[i][j].Text)
				rows[i][j] = api.Value{}
				if len(rows[i]) < cap(rows[i]) {
					rows[i][:cap(rows[i])][len(rows[i])] = api.Value{Kind: 7}
				}
				for k := range rows {
					for l := range rows[k] {
						if (k != i || l != j) && rows[k][l] != again[k][l] {
							t.Fatalf("%s: %d, %d shares memory with %d, %d", s, k, l, i, j)
						}
					}
				}
				clear(rows[:cap(rows)])
			}
		}
		if written(again, nil) != want || h.run(x) != want {
			t.Errorf("%s: an answer was not its own", s)
		}
	}
	h.has("first", "1 1 'some cats'", "2 2 'some cats'", "3 3 'other dogs'")
}
