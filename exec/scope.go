package exec

import (
	"cmp"
	"iter"
	"slices"
	"strings"

	"concordance/api"
	"concordance/catalog"
	"concordance/eval"
	"concordance/match"
	"concordance/store"
)

// scope is what a statement may name: its tables' columns; and what is looked for in them.
type scope struct {
	store  *store.Store
	tables []catalog.Entry
	looked map[search][]match.Hit
}

// search is what is looked for, and in which column, by the name under which its words stand.
type search struct{ column, text string }

// place is where a column stands: in which of the tables, as the how many-th.
type place struct{ table, column int }

// found is what may be found: a row of each table.
type found []store.Row

// open is the scope of a statement of these tables. ErrState; ErrMissing: there is no such table; ErrTwice: both are one.
func open(s *store.Store, names ...string) (*scope, error) {
	if s == nil {
		return nil, api.ErrMissing
	}
	in := &scope{store: s, looked: map[search][]match.Hit{}}
	for _, name := range names {
		e, err := s.Catalog.Get(name)
		if err != nil {
			return nil, err
		}
		in.tables = append(in.tables, e)
	}
	if len(names) == 2 && names[0] == names[1] {
		return nil, api.ErrTwice
	}
	return in, nil
}

// column is where the column of a name stands: with a table's name and a point ahead that table's, else of any table. ErrName: there is none; ErrTwice: there are two.
func (in *scope) column(name string) (place, error) {
	table, column, pointed := strings.Cut(name, ".")
	if !pointed {
		column = name
	}
	var l []place
	for i, e := range in.tables {
		if pointed && e.Table.Name != table {
			continue
		}
		if k := e.Column(column); k >= 0 {
			l = append(l, place{i, k})
		}
	}
	switch len(l) {
	case 0:
		return place{}, api.ErrName
	case 1:
		return l[0], nil
	}
	return place{}, api.ErrTwice
}

// check says what is wrong with what expressions name, one by one, from left to right. ErrName, ErrTwice: as column tells; of what is looked for then ErrArg: its column has no words; match's errors.
func (in *scope) check(l ...*api.Expr) error {
	for _, e := range l {
		for part := range named(e) {
			if err := in.checkPart(part); err != nil {
				return err
			}
		}
	}
	return nil
}

// checkPart says what is wrong with a column, or a Match.
func (in *scope) checkPart(e *api.Expr) error {
	if e.Code == api.Match {
		return in.look(e)
	}
	_, err := in.column(e.Name)
	return err
}

// look looks for what a Match asks, once for all rows. check's errors.
func (in *scope) look(e *api.Expr) error {
	if e.Left == nil {
		return api.ErrForm
	}
	p, err := in.column(e.Left.Name)
	if err != nil {
		return err
	}
	if !in.tables[p.table].Table.Columns[p.column].Words {
		return api.ErrArg
	}
	q, err := match.Parse(e.Value.Text)
	if err != nil {
		return err
	}
	asked := in.search(p, e.Value.Text)
	in.looked[asked], err = match.Eval(in.store.Words, asked.column, q)
	return err
}

// search is what is looked for in a column.
func (in *scope) search(p place, text string) search {
	return search{in.tables[p.table].Words(p.column), text}
}

// often is how often what was looked for in a column stands there (0: it does not). column's errors.
func (in *scope) often(name, text string, f found) (int, error) {
	p, err := in.column(name)
	if err != nil {
		return 0, err
	}
	hits := in.looked[in.search(p, text)]
	i, there := slices.BinarySearchFunc(hits, f[p.table].Id, func(h match.Hit, row int) int { return cmp.Compare(h.Row, row) })
	if !there {
		return 0, nil
	}
	return hits[i].Often, nil
}

// come is what an expression that was checked comes to.
func (in *scope) come(e *api.Expr, f found) (api.Value, error) {
	return eval.Eval(e, eval.Env{
		Col: func(name string) (api.Value, error) {
			p, err := in.column(name)
			if err != nil {
				return api.Value{}, err
			}
			return f[p.table].Values[p.column], nil
		},
		Match: func(name, text string) (bool, error) {
			n, err := in.often(name, text, f)
			return n > 0, err
		},
	})
}

// holds says whether a condition that was checked is known to be so. Without one all is so.
func (in *scope) holds(e *api.Expr, f found) (bool, error) {
	if e == nil {
		return true, nil
	}
	v, err := in.come(e, f)
	if err != nil {
		return false, err
	}
	is, _, err := eval.Holds(v)
	return is, err
}

// named goes through what an expression names: its columns, and what it looks for (with the column that is beneath it), from left to right.
func named(e *api.Expr) iter.Seq[*api.Expr] {
	return func(yield func(*api.Expr) bool) { visit(e, yield) }
}

// visit goes on to the right side only if yield wants more.
func visit(e *api.Expr, yield func(*api.Expr) bool) bool {
	switch {
	case e == nil:
		return true
	case e.Code == api.Col, e.Code == api.Match:
		return yield(e)
	}
	return visit(e.Left, yield) && visit(e.Right, yield)
}
