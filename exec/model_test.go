package exec

import (
	"fmt"
	"slices"
	"strings"
	"testing"

	"concordance/api"
	"concordance/eval"
	"concordance/match"
	"concordance/store"
	"concordance/value"
	"concordance/word"
)

// sheet is a table by its promises alone.
type sheet struct {
	name    string
	columns []api.Column
	rows    []store.Row
	next    int
}

// book is a store by its promises alone. No rows that stand in it are ever written into: others take their places.
type book []sheet

// cell is a column of a row, and what it has.
type cell struct {
	table, column string
	words         bool
	row           int
	value         api.Value
}

// cells are those of a row of a sheet (nil: of none, as the columns are).
func (x sheet) cells(r *store.Row) (l []cell) {
	for i, c := range x.columns {
		n := cell{table: x.name, column: c.Name, words: c.Words}
		if r != nil {
			n.row, n.value = r.Id, r.Values[i]
		}
		l = append(l, n)
	}
	return l
}

// one is the cell that is named so.
func one(l []cell, name string) (cell, error) {
	var found []cell
	for _, c := range l {
		if name == c.column || name == c.table+"."+c.column {
			found = append(found, c)
		}
	}
	if len(found) == 0 {
		return cell{}, api.ErrName
	}
	if len(found) > 1 {
		return cell{}, api.ErrTwice
	}
	return found[0], nil
}

// often is how often words have what is looked for.
func often(q *match.Query, words []string) (n int) {
	switch q.Kind {
	case match.Words:
		for i := range words {
			if strings.HasPrefix(strings.Join(words[i:], " ")+" ", strings.Join(q.Words, " ")+" ") {
				n++
			}
		}
	case match.Begin:
		for _, w := range words {
			if strings.HasPrefix(w, q.Words[0]) {
				n++
			}
		}
	case match.Near:
		for i, w := range words {
			for j, v := range words {
				if w == q.Words[0] && v == q.Words[1] && max(i-j, j-i) <= 3 {
					n = 1
				}
			}
		}
	case match.Or:
		n = often(q.Left, words) + often(q.Right, words)
	case match.And:
		if a, b := often(q.Left, words), often(q.Right, words); a > 0 && b > 0 {
			n = a + b
		}
	case match.Without:
		if often(q.Right, words) == 0 {
			n = often(q.Left, words)
		}
	}
	return n
}

// ranked is how often a column has what is looked for.
func ranked(l []cell, name, text string) (int, error) {
	c, err := one(l, name)
	if err != nil {
		return 0, err
	}
	q, err := match.Parse(text)
	if err != nil {
		return 0, err
	}
	return often(q, word.Split(c.value.Text)), nil
}

// comes is what an expression comes to.
func comes(e *api.Expr, l []cell) (api.Value, error) {
	return eval.Eval(e, eval.Env{
		Col: func(name string) (api.Value, error) {
			c, err := one(l, name)
			return c.value, err
		},
		Match: func(name, text string) (bool, error) {
			n, err := ranked(l, name, text)
			return n > 0, err
		},
	})
}

// isSo says whether a condition holds.
func isSo(e *api.Expr, l []cell) (bool, error) {
	if e == nil {
		return true, nil
	}
	v, err := comes(e, l)
	if err != nil {
		return false, err
	}
	is, known, err := eval.Holds(v)
	return is && known, err
}

// matches are all Matches of an expression, from left to right.
func matches(e *api.Expr) (l []*api.Expr) {
	if e == nil {
		return nil
	}
	if e.Code == api.Match {
		return []*api.Expr{e}
	}
	return append(matches(e.Left), matches(e.Right)...)
}

// wrongName is what is wrong with what expressions name.
func wrongName(l []cell, exprs ...*api.Expr) error {
	for _, e := range exprs {
		if e == nil {
			continue
		}
		if e.Code == api.Col || e.Code == api.Match {
			name := e.Name
			if e.Code == api.Match {
				name = e.Left.Name
			}
			c, err := one(l, name)
			if err != nil {
				return err
			}
			if e.Code == api.Match && !c.words {
				return api.ErrArg
			}
			if e.Code == api.Match {
				if _, err := match.Parse(e.Value.Text); err != nil {
					return err
				}
			}
			continue
		}
		if err := wrongName(l, e.Left, e.Right); err != nil {
			return err
		}
	}
	return nil
}

// sheet is a table, by its name.
func (b book) sheet(name string) (sheet, error) {
	for _, x := range b {
		if x.name == name {
			return x, nil
		}
	}
	return sheet{}, api.ErrMissing
}

// with is a book in which a table has other rows.
func (b book) with(x sheet) book {
	b = slices.Clone(b)
	for i := range b {
		if b[i].name == x.name {
			b[i] = x
		}
	}
	return b
}

// twos are all cells that must be asked, of one table, or two.
func (b book) twos(x api.Statement) (blank []cell, l [][]cell, err error) {
	first, err := b.sheet(x.Table)
	if err != nil {
		return nil, nil, err
	}
	second := sheet{rows: []store.Row{{}}}
	if x.Other != "" {
		if second, err = b.sheet(x.Other); err != nil {
			return nil, nil, err
		}
	}
	if x.Other == x.Table {
		return nil, nil, api.ErrTwice
	}
	for _, r := range first.rows {
		for _, s := range second.rows {
			l = append(l, append(first.cells(&r), second.cells(&s)...))
		}
	}
	return append(first.cells(nil), second.cells(nil)...), l, nil
}

// found are those of which both conditions hold.
func findAll(on, where *api.Expr, l [][]cell) (m [][]cell, err error) {
	for _, at := range l {
		is, err := isSo(on, at)
		if err != nil {
			return nil, err
		}
		if !is {
			continue
		}
		if is, err = isSo(where, at); err != nil {
			return nil, err
		}
		if is {
			m = append(m, at)
		}
	}
	return m, nil
}

// put is what is found, put together.
func put(x api.Statement, l [][]cell) (groups [][][]cell, err error) {
	plain := true
	for _, item := range x.Items {
		plain = plain && item.Of == api.Plain
	}
	if x.Group == nil && !plain {
		return [][][]cell{l}, nil
	}
	var keys []api.Value
	for i, at := range l {
		key := num(int64(i))
		if x.Group != nil {
			if key, err = comes(x.Group, at); err != nil {
				return nil, err
			}
		}
		k, is := slices.BinarySearchFunc(keys, key, value.Compare)
		if !is {
			keys, groups = slices.Insert(keys, k, key), slices.Insert(groups, k, nil)
		}
		groups[k] = append(groups[k], at)
	}
	return groups, nil
}

func num(n int64) api.Value { return api.Value{Kind: api.Int, Num: n} }

// asked is what an item comes to.
func asked(item api.Item, g [][]cell) (v api.Value, err error) {
	if item.Of == api.Plain {
		if len(g) > 0 {
			v, err = comes(item.Expr, g[0])
		}
		return v, err
	}
	if item.Expr == nil {
		return num(int64(len(g))), nil
	}
	count, sum, least, most := int64(0), num(0), api.Value{}, api.Value{}
	for _, at := range g {
		v, err := comes(item.Expr, at)
		if err != nil {
			return v, err
		}
		if v.Kind == api.Null {
			continue
		}
		if item.Of == api.Sum {
			if sum, err = eval.Count(api.Add, sum, v); err != nil {
				return v, err
			}
		}
		if count == 0 || value.Compare(v, least) < 0 {
			least = v
		}
		if count == 0 || value.Compare(v, most) > 0 {
			most = v
		}
		count++
	}
	if count == 0 && item.Of != api.Count {
		return api.Value{}, nil
	}
	return []api.Value{num(count), sum, least, most}[item.Of-api.Count], nil
}

// lined is a line, and what it is put in order by.
func lined(x api.Statement, g [][]cell) (row, keys []api.Value, err error) {
	if len(x.Items) == 0 {
		for _, c := range g[0] {
			row = append(row, c.value)
		}
	}
	for _, item := range x.Items {
		v, err := asked(item, g)
		if err != nil {
			return nil, nil, err
		}
		row = append(row, v)
	}
	for _, by := range x.Order {
		v, err := api.Value{}, error(nil)
		if by.Expr != nil {
			v, err = asked(api.Item{Expr: by.Expr}, g)
		} else if len(g) > 0 {
			first := matches(x.Where)[0]
			n := 0
			n, err = ranked(g[0], first.Left.Name, first.Value.Text)
			v = num(int64(n))
		}
		if err != nil {
			return nil, nil, err
		}
		keys = append(keys, v)
	}
	return row, keys, nil
}

// ahead says whether a line must stand ahead of another one that stood ahead of it.
func ahead(x api.Statement, a, b []api.Value) bool {
	for i, by := range x.Order {
		if n := value.Compare(a[i], b[i]); n != 0 {
			return n < 0 != by.Down
		}
	}
	return false
}

// choose is what a select tells.
func (b book) choose(x api.Statement) ([][]api.Value, error) {
	blank, all, err := b.twos(x)
	if err != nil {
		return nil, err
	}
	var l []*api.Expr
	rank := false
	for _, item := range x.Items {
		l = append(l, item.Expr)
	}
	l = append(l, x.On, x.Where, x.Group)
	for _, by := range x.Order {
		l = append(l, by.Expr)
		rank = rank || by.Expr == nil
	}
	if err := wrongName(blank, l...); err != nil {
		return nil, err
	}
	if rank && len(matches(x.Where)) == 0 {
		return nil, api.ErrName
	}
	found, err := findAll(x.On, x.Where, all)
	if err != nil {
		return nil, err
	}
	groups, err := put(x, found)
	if err != nil {
		return nil, err
	}
	var rows, keys [][]api.Value
	for _, g := range groups {
		row, key, err := lined(x, g)
		if err != nil {
			return nil, err
		}
		// Each goes ahead of all behind which it may not stand.
		k := len(rows)
		for k > 0 && ahead(x, key, keys[k-1]) {
			k--
		}
		rows, keys = slices.Insert(rows, k, row), slices.Insert(keys, k, key)
	}
	if x.Limit >= 0 {
		rows = rows[:min(len(rows), x.Limit)]
	}
	if len(rows) > api.MaxRows {
		return nil, api.ErrLimit
	}
	return rows, nil
}

// wrongRow is what is wrong with a row.
func (x sheet) wrongRow(l []api.Value) error {
	if len(l) != len(x.columns) {
		return api.ErrArg
	}
	for i, v := range l {
		if v.Kind != api.Null && v.Kind != x.columns[i].Kind {
			return &api.At{Err: api.ErrArg, Place: i}
		}
		if v.Kind == api.Null && x.columns[i].Must {
			return &api.At{Err: api.ErrFalse, Place: i}
		}
	}
	return nil
}

// insert is a book with more rows, and how many they are.
func (b book) insert(x api.Statement) (book, int, error) {
	s, err := b.sheet(x.Table)
	if err != nil {
		return b, 0, err
	}
	for _, row := range x.Rows {
		var l []api.Value
		for _, e := range row {
			if err := wrongName(nil, e); err != nil {
				return b, 0, err
			}
			v, err := comes(e, nil)
			if err != nil {
				return b, 0, err
			}
			l = append(l, v)
		}
		if err := s.wrongRow(l); err != nil {
			return b, 0, err
		}
		if len(s.rows) == 100 {
			return b, 0, api.ErrFull
		}
		s.rows = append(slices.Clip(s.rows), store.Row{Id: s.next, Values: l})
		s.next++
	}
	return b.with(s), len(x.Rows), nil
}

// change is a book in which rows are other, or are not there any more, and how many they are.
func (b book) change(x api.Statement) (book, int, error) {
	blank, all, err := b.twos(x)
	if err != nil {
		return b, 0, err
	}
	s, _ := b.sheet(x.Table)
	places := map[string]int{}
	for i, c := range s.columns {
		places[c.Name] = i
	}
	set := map[int]*api.Expr{}
	for _, e := range x.Sets {
		i, is := places[e.Name]
		if !is {
			return b, 0, api.ErrName
		}
		if set[i] != nil {
			return b, 0, api.ErrTwice
		}
		if err := wrongName(blank, e.Left); err != nil {
			return b, 0, err
		}
		set[i] = e.Left
	}
	if err := wrongName(blank, x.Where); err != nil {
		return b, 0, err
	}
	found, err := findAll(nil, x.Where, all)
	if err != nil {
		return b, 0, err
	}
	news := map[int][]api.Value{}
	for _, at := range found {
		var l []api.Value
		for _, c := range at {
			l = append(l, c.value)
		}
		for _, e := range x.Sets {
			if l[places[e.Name]], err = comes(e.Left, at); err != nil {
				return b, 0, err
			}
		}
		news[at[0].row] = l
	}
	var rows []store.Row
	for _, r := range s.rows {
		l, is := news[r.Id]
		switch {
		case !is:
			rows = append(rows, r)
		case x.Kind == api.Update:
			if err := s.wrongRow(l); err != nil {
				return b, 0, err
			}
			rows = append(rows, store.Row{Id: r.Id, Values: l})
		}
	}
	s.rows = rows
	return b.with(s), len(found), nil
}

// run does a statement: what it tells, as a text.
func (b book) run(x api.Statement) (book, string) {
	switch x.Kind {
	case api.Insert:
		c, n, err := b.insert(x)
		return c, done(n, err)
	case api.Delete, api.Update:
		c, n, err := b.change(x)
		return c, done(n, err)
	}
	return b, written(b.choose(x))
}

// street is houses with other indexes each, and the book that they must be like.
type street struct {
	t      *testing.T
	dice   die
	houses []*house
	book   book
	told   map[string]int // how often what was told
}

// begun is a street of drawn tables t and u.
func begun(t *testing.T, seed int) *street {
	s := &street{t: t, dice: die(seed), told: map[string]int{}}
	must := func() string { return s.dice.pick("", "", " not null") }
	creates := []string{
		"create table t (a int" + must() + ", b text" + must() + " words, c int, e text)",
		"create table u (d int, a int" + must() + ", b text words)",
	}
	none := [][]string{nil}
	ways := append(none, []string{"create index on t (a)", "create index on u (a)"}, []string{"create index on t (b)", "create index on t (c)", "create index on u (d)"})
	ways = append(ways, append(append([]string{"create index on t (e)", "create index on u (b)"}, ways[1]...), ways[2]...))
	for _, way := range ways {
		s.houses = append(s.houses, built(t, append(slices.Clone(creates), way...)...))
	}
	for _, c := range creates {
		x := statement(t, c)
		s.book = append(s.book, sheet{name: x.Table, columns: x.Columns, next: 1})
	}
	return s
}

// step does a statement everywhere.
func (s *street) step(text string) {
	s.t.Helper()
	x := statement(s.t, text)
	b, want := s.book.run(x)
	for i, h := range s.houses {
		m := h.pager.Mark()
		got := h.run(x)
		if got != want {
			s.t.Fatalf("house %d: %s: %s, want %s", i, text, got, want)
		}
		if strings.HasPrefix(got, "error") {
			h.pager.Back(m)
		}
	}
	s.book = b
	s.told[strings.Join(strings.Split(want, " ")[:min(2, strings.Count(want, " ")+1)], " ")+fmt.Sprint(" of ", x.Kind)]++
	if x.Kind != api.Select && !strings.HasPrefix(want, "error") {
		s.look(x.Table)
	}
}

// look fails, unless all houses have just the book's rows.
func (s *street) look(name string) {
	s.t.Helper()
	x, _ := s.book.sheet(name)
	for i, h := range s.houses {
		rows, err := h.Scan(name)
		if err != nil || !slices.EqualFunc(rows, x.rows, func(a, b store.Row) bool { return a.Id == b.Id && slices.Equal(a.Values, b.Values) }) {
			s.t.Fatalf("house %d: %s has %v, %v, want %v", i, name, rows, err, x.rows)
		}
	}
}

// TestModel: 15.1 to 15.4: drawn statements, of tables with all sorts of indexes, against what the promises say.
func TestModel(t *testing.T) {
	all := map[string]int{}
	for seed := range 80 {
		s := begun(t, seed)
		for range 150 {
			s.step(s.dice.statement())
		}
		s.look("t")
		s.look("u")
		for k, n := range s.told {
			all[k] += n
		}
	}
	// Else nothing would be told by this test.
	for _, k := range strings.Split("rows of 7|error 1 of 7|error 2 of 7|error 3 of 7|error 5 of 7|error 7 of 7|error 9 of 7|error 4 of 7|done 1 of 4|done 3 of 4|error 1 of 4|error 5 of 4|error 13 of 4|done 0 of 5|done 1 of 5|error 1 of 5|error 5 of 5|done 0 of 6|done 1 of 6|done 3 of 6|error 1 of 6|error 2 of 6|error 5 of 6|error 9 of 6|error 13 of 6", "|") {
		if all[k] < 3 {
			t.Errorf("%s was told %d times", k, all[k])
		}
	}
}
