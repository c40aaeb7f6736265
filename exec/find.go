package exec

import (
	"concordance/api"
	"concordance/plan"
	"concordance/store"
)

// find is all that is found: of one table its rows, of two all twos of them, of which on, and then where, holds. The errors of what is counted, as if all were asked.
func (in *scope) find(on, where *api.Expr) ([]found, error) {
	asked, err := in.asked(where)
	if err != nil {
		return nil, err
	}
	var l []found
	for _, f := range asked {
		is, err := in.holds(on, f)
		if err == nil && is {
			is, err = in.holds(where, f)
		}
		if err != nil {
			return nil, err
		}
		if is {
			l = append(l, f)
		}
	}
	return l, nil
}

// asked is all of which it must be asked whether it is found: of one table those rows that a plan tells, of two all twos, as on may be an error in any of them.
func (in *scope) asked(where *api.Expr) ([]found, error) {
	var l []found
	if len(in.tables) == 1 {
		rows, err := in.planned(plan.Choose(in.tables[0], where))
		for _, r := range rows {
			l = append(l, found{r})
		}
		return l, err
	}
	first, err := in.store.Scan(in.tables[0].Table.Name)
	if err != nil {
		return nil, err
	}
	second, err := in.store.Scan(in.tables[1].Table.Name)
	for _, r := range first {
		for _, other := range second {
			l = append(l, found{r, other})
		}
	}
	return l, err
}

// planned are the rows of the first table that a plan tells, by their numbers.
func (in *scope) planned(p plan.Plan) ([]store.Row, error) {
	e := in.tables[0]
	switch p.Kind {
	case plan.Index:
		numbers, err := in.store.Range(e.Table.Name, p.Column, p.Low, p.High)
		if err != nil {
			return nil, err
		}
		return in.rows(numbers)
	case plan.Words:
		var numbers []int
		for _, hit := range in.looked[in.search(place{0, e.Column(p.Column)}, p.Text)] {
			numbers = append(numbers, hit.Row)
		}
		return in.rows(numbers)
	}
	return in.store.Scan(e.Table.Name)
}

// rows are the rows of the first table that have these numbers.
func (in *scope) rows(numbers []int) ([]store.Row, error) {
	var l []store.Row
	for _, n := range numbers {
		r, err := in.store.Get(in.tables[0].Table.Name, n)
		if err != nil {
			return nil, err
		}
		l = append(l, r)
	}
	return l, nil
}
