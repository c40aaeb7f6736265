package store

import (
	"slices"

	"concordance/api"
	"concordance/catalog"
)

// find is a table, and one of its rows. ErrState; ErrMissing: there is no such table, or row.
func (s *Store) find(name string, row int) (catalog.Entry, Row, error) {
	e, err := s.Catalog.Get(name)
	if err != nil {
		return e, Row{}, err
	}
	item, err := s.trees[rows].Get(rowKey(e.Id, row))
	if err != nil {
		return e, Row{}, err
	}
	l, err := read(e.Table.Columns, item)
	return e, Row{row, l}, err
}

// all is a table, and all its rows, by their numbers. ErrState; ErrMissing.
func (s *Store) all(name string) (catalog.Entry, []Row, error) {
	e, err := s.Catalog.Get(name)
	if err != nil {
		return e, nil, err
	}
	found, err := s.trees[rows].Prefix(tableKey(e.Id))
	if err != nil {
		return e, nil, err
	}
	var l []Row
	for _, p := range found {
		row, err := readRow(p.Key)
		if err != nil {
			return e, nil, err
		}
		values, err := read(e.Table.Columns, p.Item)
		if err != nil {
			return e, nil, err
		}
		l = append(l, Row{row, values})
	}
	return e, l, nil
}

// put lets a row that is not there be there, as its item is written, and be found. ErrFull: then part of it may be done.
func (s *Store) put(e catalog.Entry, r Row, item string) error {
	if err := s.trees[rows].Put(rowKey(e.Id, r.Id), item); err != nil {
		return err
	}
	err := each(e.Table, hasIndex(e.Table), func(i int) error { return s.index(e, r, i) })
	if err != nil {
		return err
	}
	// Nothing has no text, and so no words.
	return each(e.Table, hasWords, func(i int) error { return s.Words.Add(e.Words(i), r.Id, r.Values[i].Text) })
}

// index lets a row's value stand in the index by a column. ErrFull.
func (s *Store) index(e catalog.Entry, r Row, i int) error {
	key, err := indexKey(e.Id, i, r)
	if err != nil {
		return err
	}
	return s.trees[indexes].Put(key, "")
}

// take takes a row that is there out, and all by which it is found.
func (s *Store) take(e catalog.Entry, r Row) error {
	if err := s.trees[rows].Drop(rowKey(e.Id, r.Id)); err != nil {
		return err
	}
	err := each(e.Table, hasIndex(e.Table), func(i int) error {
		key, err := indexKey(e.Id, i, r)
		if err != nil {
			return err
		}
		return s.trees[indexes].Drop(key)
	})
	if err != nil {
		return err
	}
	return each(e.Table, hasWords, func(i int) error { return s.Words.Drop(e.Words(i), r.Id, r.Values[i].Text) })
}

// each looks for the columns of a table that are wanted: do is told where each one stands, till it tells an error.
func each(t api.Table, wanted func(c api.Column) bool, do func(i int) error) error {
	for i, c := range t.Columns {
		if !wanted(c) {
			continue
		}
		if err := do(i); err != nil {
			return err
		}
	}
	return nil
}

// hasIndex wants the columns by which there is an index.
func hasIndex(t api.Table) func(c api.Column) bool {
	return func(c api.Column) bool { return slices.Contains(t.Indexes, c.Name) }
}

// hasWords wants the columns whose words are looked for.
func hasWords(c api.Column) bool {
	return c.Words
}
