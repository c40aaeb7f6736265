package exec

import (
	"slices"

	"concordance/api"
	"concordance/store"
)

// set is a column, by where it stands, and what it is set to.
type set struct {
	column int
	to     *api.Expr
}

// given are the values of a row that is put in: one by one each is checked, then asked. There are no columns.
func given(s *store.Store, row []*api.Expr) ([]api.Value, error) {
	none := &scope{store: s}
	var l []api.Value
	for _, e := range row {
		if err := none.check(e); err != nil {
			return nil, err
		}
		v, err := none.come(e, nil)
		if err != nil {
			return nil, err
		}
		l = append(l, v)
	}
	return l, nil
}

// sets are what columns are set to. One by one: ErrName: there is no such column; ErrTwice: it was set ahead; check's errors of what it is set to.
func (in *scope) sets(l []*api.Expr) ([]set, error) {
	var sets []set
	for _, e := range l {
		if e == nil {
			return nil, api.ErrForm
		}
		i := in.tables[0].Column(e.Name)
		if i < 0 {
			return nil, api.ErrName
		}
		if slices.ContainsFunc(sets, func(ahead set) bool { return ahead.column == i }) {
			return nil, api.ErrTwice
		}
		if err := in.check(e.Left); err != nil {
			return nil, err
		}
		sets = append(sets, set{i, e.Left})
	}
	return sets, nil
}

// changed are rows as they will be: what is set comes to something as the row was, whatever was set ahead.
func (in *scope) changed(sets []set, all []found) ([]store.Row, error) {
	var rows []store.Row
	for _, f := range all {
		r := store.Row{Id: f[0].Id, Values: slices.Clone(f[0].Values)}
		for _, s := range sets {
			v, err := in.come(s.to, f)
			if err != nil {
				return nil, err
			}
			r.Values[s.column] = v
		}
		rows = append(rows, r)
	}
	return rows, nil
}
