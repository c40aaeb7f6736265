package base

import (
	"fmt"
	"reflect"
	"slices"
	"testing"
	"unsafe"

	"concordance/api"
	"concordance/disk"
)

// scrawl writes over a text's memory. (A text of one byte lies where nobody may write: it stays.)
func scrawl(s string) {
	if len(s) < 2 {
		return
	}
	for i := range len(s) {
		unsafe.Slice(unsafe.StringData(s), len(s))[i] = '!'
	}
}

// copies makes copies of statements in memory of their own, and notes all of it.
type copies struct{ texts []string }

func (c *copies) text(s string) string {
	s = string([]byte(s))
	c.texts = append(c.texts, s)
	return s
}

func (c *copies) expr(e *api.Expr) *api.Expr {
	if e == nil {
		return nil
	}
	v := e.Value
	v.Text = c.text(v.Text)
	return &api.Expr{Code: e.Code, Value: v, Name: c.text(e.Name), Left: c.expr(e.Left), Right: c.expr(e.Right)}
}

// exprs copies a list, with something behind its length.
func (c *copies) exprs(l []*api.Expr) []*api.Expr {
	var m []*api.Expr
	for _, e := range l {
		m = append(m, c.expr(e))
	}
	return append(m, &api.Expr{Code: 77})[:len(l)]
}

func (c *copies) statement(x api.Statement) api.Statement {
	x.Table, x.Other, x.Name = c.text(x.Table), c.text(x.Other), c.text(x.Name)
	x.Columns = append(slices.Clone(x.Columns), api.Column{Name: "behind"})[:len(x.Columns)]
	for i := range x.Columns {
		x.Columns[i].Name = c.text(x.Columns[i].Name)
	}
	var rows [][]*api.Expr
	for _, row := range x.Rows {
		rows = append(rows, c.exprs(row))
	}
	x.Rows = append(rows, nil)[:len(rows)]
	x.Sets = c.exprs(x.Sets)
	x.On, x.Where, x.Group = c.expr(x.On), c.expr(x.Where), c.expr(x.Group)
	x.Items = append(slices.Clone(x.Items), api.Item{Of: 77})[:len(x.Items)]
	for i := range x.Items {
		x.Items[i].Expr = c.expr(x.Items[i].Expr)
	}
	x.Order = append(slices.Clone(x.Order), api.Rank{Down: true})[:len(x.Order)]
	for i := range x.Order {
		x.Order[i].Expr = c.expr(x.Order[i].Expr)
	}
	return x
}

// behind is what stands behind the length of a list.
func behind[T any](l []T) T { return l[:len(l)+1][len(l)] }

// rest is all that stands behind the lengths of a statement's lists.
func rest(x api.Statement) (l []any) {
	for _, row := range x.Rows {
		l = append(l, *behind(row))
	}
	return append(l, behind(x.Columns), behind(x.Rows), *behind(x.Sets), behind(x.Items), behind(x.Order))
}

// remembered are statements that name and say much.
const remembered = `
	create table first (numb int not null, textual text words, more text)
	create table first (numb int)
	create table second (numb int, textual text, numb int)
	create table other (numb int, textual text)
	create index on first (textual)
	create index on first (numb)
	create index on first (nothing)
	insert into first values (11, 'some cats', 'more text'), (22, 'other dogs', 'text')
	insert into other values (11, 'some cats'), (33, 'more text')
	insert into first values (33, 'other', 'cat'), (null, 'other', 'cat')
	select * from first
	select numb, textual, first.more, 'a literal' from first
	begin
	select * from first join other on first.numb = other.numb where textual match 'cats' order by rank, first.more desc
	select min(textual), max(first.more), count(textual), min('a literal') from first group by textual
	update first set textual = 'new cats', more = textual where textual match 'some cats'
	update first set textual = 'more cats', numb = null
	create index on other (textual)
	create table third (numb int, textual text words)
	insert into third values (44, 'horses'), (55, 'sheep')
	commit
	begin
	delete from first where more = 'some cats'
	drop table third
	rollback
	select * from third where textual match 'sheep'
	select * from first
	delete from first where more
	drop table second
	drop table third
	select other.textual from other where textual = 'some cats'
`

// TestNothingIsKept: P4: no statement that is handed to Do is written into, nor what stands behind its lists; and no memory of it is kept, or comes out.
func TestNothingIsKept(t *testing.T) {
	h, want := opened(t, &disk.Disk{}), opened(t, &disk.Disk{})
	for _, s := range lines(remembered) {
		x := statement(t, s)
		var c, d copies
		handed, same := c.statement(x), d.statement(x)
		a, err := h.Do(handed)
		if !reflect.DeepEqual(handed, same) || !reflect.DeepEqual(rest(handed), rest(same)) {
			t.Errorf("%s: it was written into", s)
		}
		for _, text := range c.texts {
			scrawl(text)
		}
		if got, told := written(x.Kind, a, err), want.say(s); got != told {
			t.Errorf("%s: %s, want %s", s, got, told)
		}
		if all(t, h.pager) != all(t, want.pager) || committed(t, h.disk) != committed(t, want.disk) {
			t.Fatalf("%s: what it has is other than it must be", s)
		}
	}
}

// TestNoTextIsKept: P4: no memory of a text that is handed to Say is kept, or comes out.
func TestNoTextIsKept(t *testing.T) {
	h, want := opened(t, &disk.Disk{}), opened(t, &disk.Disk{})
	for _, s := range lines(remembered) {
		text := string([]byte(s))
		a, err := h.Say(text)
		if text != s {
			t.Errorf("%s: it was written into", s)
		}
		scrawl(text)
		kind := statement(t, s).Kind
		if got, told := written(kind, a, err), want.say(s); got != told {
			t.Errorf("%s: %s, want %s", s, got, told)
		}
		if all(t, h.pager) != all(t, want.pager) || committed(t, h.disk) != committed(t, want.disk) {
			t.Fatalf("%s: what it has is other than it must be", s)
		}
	}
}

// TestAnswersAreFresh: P4: what comes out is the caller's: no two lists of it, and no two answers, share memory, nor is it the base's.
func TestAnswersAreFresh(t *testing.T) {
	h := built(t, `
		create table first (numb int, textual text words)
		create table other (more text)
		insert into first values (1, 'some cats'), (2, 'some cats'), (3, 'other dogs')
		insert into other values ('text one'), ('text two')
		begin
		insert into other values ('text three')
	`)
	was := all(t, h.pager)
	for _, s := range lines(`
		select * from first
		select * from first join other on 1
		select textual, textual, 'a literal', 'a literal' from first
		select textual, min(textual), max(textual), min('a literal') from first group by textual
		select * from first where textual match 'cats' order by textual, rank
	`) {
		want := h.say(s)
		again, err := h.Say(s)
		told(t, s, err, nil)
		for i := range again.Rows {
			for j := range again.Rows[i] {
				a, _ := h.Say(s)
				scrawl(a.Rows[i][j].Text)
				a.Rows[i][j] = api.Value{}
				clear(a.Rows[i][len(a.Rows[i]):cap(a.Rows[i])])
				for k := range a.Rows {
					for l := range a.Rows[k] {
						if (k != i || l != j) && a.Rows[k][l] != again.Rows[k][l] {
							t.Fatalf("%s: %d, %d shares memory with %d, %d", s, k, l, i, j)
						}
					}
				}
				clear(a.Rows[:cap(a.Rows)])
			}
		}
		if got := written(api.Select, again, nil); got != want || h.say(s) != want || all(t, h.pager) != was {
			t.Errorf("%s: an answer was not its own", s)
		}
	}
}

// TestNoSuchKind: P1, P2: a statement of no kind does nothing, outside and inside.
func TestNoSuchKind(t *testing.T) {
	h := built(t, tables)
	for _, ahead := range []string{"select c from u => rows 5, 6", "begin => done 0\ndelete from u => done 2"} {
		h.says(ahead)
		was := all(t, h.pager)
		for _, kind := range []int{-1 << 63, -1, 0, 11, 12, 1<<63 - 1} {
			x := statement(t, "insert into t values (4, 'owls')")
			x.Kind = kind
			if a, err := h.Do(x); err != nil || a.Rows != nil || a.Count != 0 {
				t.Errorf("Do of kind %d: %v, %v", kind, a, err)
			}
			h.stands("Do")
			if all(t, h.pager) != was {
				t.Errorf("Do of kind %d: something is other than it was", kind)
			}
		}
	}
	h.says("commit => done 0\nselect c from u => rows")
}

// TestStrangeStatements: P1: nothing that is handed to Do makes it panic; what is an error changes nothing.
func TestStrangeStatements(t *testing.T) {
	h := built(t, tables)
	var parts []*api.Expr
	for code := -1; code <= api.Match+2; code++ {
		parts = append(parts, &api.Expr{Code: code, Name: "b", Value: api.Value{Kind: api.Text, Text: "x"}})
		parts = append(parts, &api.Expr{Code: code, Left: parts[0], Right: parts[len(parts)-1], Name: "a"})
	}
	parts = append(parts, nil, &api.Expr{Code: api.Col, Name: "."}, &api.Expr{Code: api.Lit, Value: api.Value{Kind: 9, Num: 1, Text: "\x00"}})
	names := []string{"t", "u", "", "\x00", "a", "b", "t.a", "averyveryverylongname"}
	d := die(5)
	some := func() *api.Expr { return parts[d.below(len(parts))] }
	name := func() string { return names[d.below(len(names))] }
	for range 6000 {
		kind := d.below(12) - 1
		x := api.Statement{Kind: kind, Table: names[d.below(3)], Other: name(), Name: name(), Where: some(), On: some(), Group: some(), Limit: d.below(9) - 4}
		if d.below(2) == 0 {
			x.Where, x.Group, x.Other = nil, nil, ""
		}
		for range d.below(4) {
			x.Columns = append(x.Columns, api.Column{Name: name(), Kind: d.below(5) - 1, Must: d.below(2) == 0, Words: d.below(2) == 0})
			x.Rows = append(x.Rows, []*api.Expr{some(), some(), nil}[:d.below(4)])
			x.Sets = append(x.Sets, some())
			x.Items = append(x.Items, api.Item{Of: d.below(7) - 1, Expr: some()})
			x.Order = append(x.Order, api.Rank{Expr: some(), Down: true})
		}
		was, inside := all(t, h.pager), h.Inside()
		if _, err := h.Do(x); err != nil && (all(t, h.pager) != was || h.Inside() != inside) {
			t.Fatalf("%q: %v, and something is other than it was", fmt.Sprint(x), err)
		}
		if h.Down() || !h.Inside() && committed(t, h.disk) != all(t, h.pager) {
			t.Fatalf("%q: it is Down, or not committed", fmt.Sprint(x))
		}
	}
}

// TestStrangeDisks: P1: nor whatever lies on the disk; what is an error changes nothing then, either.
func TestStrangeDisks(t *testing.T) {
	dice := die(11)
	for n := range 150 {
		d := *built(t, tables).disk
		for k := range api.Places {
			s, err := d.Read(k)
			told(t, "Read", err, nil)
			b := []byte(s)
			if n%3 > 0 && slices.Max(b) == 0 {
				continue
			}
			for range dice.below(1 + n%20) {
				b[dice.below(len(b))] = byte(dice.below(256))
			}
			told(t, "Write", d.Write(k, string(b)), nil)
		}
		b, err := Open(&d)
		told(t, "Open", err, nil)
		for _, s := range lines(`
			select * from t
			select * from t join u on a = c
			select b from t where b match 'cat' order by rank
			begin
			update t set b = 'dogs' where b match 'cow' or a = 2
			insert into t values (1, 'cats'), (1, 'cows')
			create index on t (b)
			rollback
			create table v (a int)
			delete from t where a = 1
			drop table t
			drop table u
		`) {
			was := all(t, b.pager)
			if _, err := b.Say(s); err != nil && all(t, b.pager) != was {
				t.Fatalf("%s: %v, and something is other than it was", s, err)
			}
		}
	}
}

// TestDeep: P1, Limits: expressions with many parts in one another.
func TestDeep(t *testing.T) {
	h := built(t, tables)
	deep := statement(t, "select * from t where a = 2").Where
	left := deep
	for range 1 << 15 {
		left = &api.Expr{Code: api.And, Left: left, Right: deep}
	}
	x := statement(t, "delete from t where 1")
	x.Where = left
	if a, err := h.Do(x); a.Count != 1 || err != nil {
		t.Errorf("%v, %v", a, err)
	}
}
