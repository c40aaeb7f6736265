package exec

import (
	"slices"

	"concordance/api"
	"concordance/value"
)

// checkSelect says what is wrong with what a select names. check's errors; ErrName: a rank of nothing.
func (in *scope) checkSelect(x api.Statement) error {
	var l []*api.Expr
	for _, item := range x.Items {
		l = append(l, item.Expr)
	}
	l = append(l, x.On, x.Where, x.Group)
	for _, by := range x.Order {
		l = append(l, by.Expr)
	}
	if err := in.check(l...); err != nil {
		return err
	}
	if slices.ContainsFunc(x.Order, isRank) && firstMatch(x.Where) == nil {
		return api.ErrName
	}
	return nil
}

// isRank says whether lines are put in order by how often words are found.
func isRank(by api.Rank) bool { return by.Expr == nil }

// firstMatch is the first Match of an expression, from left to right (nil: it has none).
func firstMatch(e *api.Expr) *api.Expr {
	for part := range named(e) {
		if part.Code == api.Match {
			return part
		}
	}
	return nil
}

// answer is what is told: lines in order, as many as are asked for. ErrLimit: more than MaxRows.
func answer(x api.Statement, lines []line) ([][]api.Value, error) {
	slices.SortStableFunc(lines, func(a, b line) int { return compare(x.Order, a.keys, b.keys) })
	if x.Limit >= 0 && len(lines) > x.Limit {
		lines = lines[:x.Limit]
	}
	if len(lines) > api.MaxRows {
		return nil, api.ErrLimit
	}
	var l [][]api.Value
	for _, at := range lines {
		l = append(l, at.values)
	}
	return l, nil
}

// compare says which of two lines stands first, by what each is put in order by: -1, 0 or 1.
func compare(order []api.Rank, a, b []api.Value) int {
	for i, by := range order {
		n := value.Compare(a[i], b[i])
		if n != 0 && by.Down {
			return -n
		}
		if n != 0 {
			return n
		}
	}
	return 0
}
