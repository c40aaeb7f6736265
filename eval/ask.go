package eval

import "concordance/api"

// asked are the questions: each with whether it is so of a value that stands ahead of the other one, is the same, or stands behind it.
var asked = [...]struct {
	code                int
	ahead, same, behind bool
}{
	{api.Eq, false, true, false},
	{api.Ne, true, false, true},
	{api.Lt, true, false, false},
	{api.Le, true, true, false},
	{api.Gt, false, false, true},
	{api.Ge, false, true, true},
}

// truth is YES, or NO.
func truth(so bool) api.Value {
	if so {
		return number(1)
	}
	return number(0)
}

// not is the other one: of nothing it is nothing. ErrArg: a text.
func not(v api.Value) (api.Value, error) {
	is, known, err := Holds(v)
	if err != nil || !known {
		return api.Value{}, err
	}
	return truth(!is), nil
}
