package exec

import (
	"strings"

	"concordance/api"
	"concordance/eval"
	"concordance/value"
)

// line is one of an answer: what it has, and what it is put in order by.
type line struct{ values, keys []api.Value }

// lines are what is asked of each group. The errors of what is counted, line by line.
func (in *scope) lines(x api.Statement, groups [][]found) ([]line, error) {
	rank := firstMatch(x.Where)
	var l []line
	for _, g := range groups {
		values, err := in.values(x.Items, g)
		if err != nil {
			return nil, err
		}
		keys, err := in.keys(x.Order, rank, g)
		if err != nil {
			return nil, err
		}
		l = append(l, line{values, keys})
	}
	return l, nil
}

// values are what a line has: what is asked of its group, item by item; without items, where no group is without rows, all columns of the first one.
func (in *scope) values(items []api.Item, g []found) ([]api.Value, error) {
	if len(items) == 0 {
		return everything(g[0]), nil
	}
	var l []api.Value
	for _, item := range items {
		v, err := in.item(item, g)
		if err != nil {
			return nil, err
		}
		l = append(l, v)
	}
	return l, nil
}

// everything is what all columns have. Of two tables a row may stand in several lines, and these share no memory: each has texts of its own.
func everything(f found) []api.Value {
	var l []api.Value
	for _, r := range f {
		for _, v := range r.Values {
			v.Text = strings.Clone(v.Text)
			l = append(l, v)
		}
	}
	return l
}

// keys are what a line is put in order by.
func (in *scope) keys(order []api.Rank, rank *api.Expr, g []found) ([]api.Value, error) {
	var l []api.Value
	for _, by := range order {
		v, err := in.key(by, rank, g)
		if err != nil {
			return nil, err
		}
		l = append(l, v)
	}
	return l, nil
}

// key is what an expression comes to in a group's first row, or how often what is looked for is found there.
func (in *scope) key(by api.Rank, rank *api.Expr, g []found) (api.Value, error) {
	if !isRank(by) || len(g) == 0 {
		return in.first(by.Expr, g)
	}
	n, err := in.often(rank.Left.Name, rank.Value.Text, g[0])
	return number(n), err
}

// first is what an expression comes to in a group's first row; nothing, if it has none.
func (in *scope) first(e *api.Expr, g []found) (api.Value, error) {
	if len(g) == 0 {
		return api.Value{}, nil
	}
	return in.come(e, g[0])
}

// item is what is asked of a group.
func (in *scope) item(item api.Item, g []found) (api.Value, error) {
	switch {
	case item.Of == api.Plain:
		return in.first(item.Expr, g)
	case item.Of == api.Count && item.Expr == nil:
		return number(len(g)), nil
	}
	return in.whole(item, g)
}

// whole is what comes of an expression in all rows of a group: of how many it is something, their sum, the least or the greatest one.
func (in *scope) whole(item api.Item, g []found) (api.Value, error) {
	many, so := 0, api.Value{}
	for _, f := range g {
		v, err := in.come(item.Expr, f)
		if err != nil {
			return api.Value{}, err
		}
		if v.Kind == api.Null {
			continue
		}
		many++
		so, err = with(item.Of, so, v)
		if err != nil {
			return api.Value{}, err
		}
	}
	if item.Of == api.Count {
		return number(many), nil
	}
	return so, nil
}

// with is what comes of one value more, which is something; so is what came of those ahead of it, nothing, if there are none. eval.Count's errors.
func with(of int, so, v api.Value) (api.Value, error) {
	switch {
	case of == api.Sum && so.Kind == api.Null:
		// A text alone is an error, too: from 0 on, it is counted with.
		return eval.Count(api.Add, number(0), v)
	case of == api.Sum:
		return eval.Count(api.Add, so, v)
	case so.Kind == api.Null, of == api.Min && value.Compare(v, so) < 0, of == api.Max && value.Compare(v, so) > 0:
		return v, nil
	}
	return so, nil
}

// number is a number as a value.
func number(n int) api.Value { return api.Value{Kind: api.Int, Num: int64(n)} }
