package exec

import (
	"slices"

	"concordance/api"
	"concordance/value"
)

// member is what is found, and what it is put together by.
type member struct {
	key api.Value
	of  found
}

// together is what is found, put together: what stands in one list makes one line.
func (in *scope) together(x api.Statement, all []found) ([][]found, error) {
	if x.Group != nil {
		return in.grouped(x.Group, all)
	}
	if slices.ContainsFunc(x.Items, func(item api.Item) bool { return item.Of != api.Plain }) {
		return [][]found{all}, nil
	}
	var groups [][]found
	for _, f := range all {
		groups = append(groups, []found{f})
	}
	return groups, nil
}

// grouped is what is found, put together by what an expression comes to, in that order; what is put together stays as it stood.
func (in *scope) grouped(by *api.Expr, all []found) ([][]found, error) {
	var members []member
	for _, f := range all {
		key, err := in.come(by, f)
		if err != nil {
			return nil, err
		}
		members = append(members, member{key, f})
	}
	slices.SortStableFunc(members, func(a, b member) int { return value.Compare(a.key, b.key) })
	var groups [][]found
	for i, m := range members {
		if i == 0 || value.Compare(members[i-1].key, m.key) != 0 {
			groups = append(groups, nil)
		}
		last := len(groups) - 1
		groups[last] = append(groups[last], m.of)
	}
	return groups, nil
}
