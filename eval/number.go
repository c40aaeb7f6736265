package eval

import "concordance/api"

func number(n int64) api.Value { return api.Value{Kind: api.Int, Num: n} }

// counted is what two numbers come to, and whether it fits in 64 bits: a sum that wraps round stands on the wrong side of a.
func counted(code int, a, b int64) (n int64, fits bool) {
	switch code {
	case api.Add:
		n = a + b
		return n, (n < a) == (b < 0)
	case api.Sub:
		n = a - b
		return n, (n < a) == (b > 0)
	}
	return product(a, b)
}

// product is what two numbers come to, multiplied, and whether it fits: then it is a again, divided by b. Its sign is looked at, too: the least number by -1 wraps round to itself, and does so again when it is divided.
func product(a, b int64) (n int64, fits bool) {
	if a == 0 || b == 0 {
		return 0, true
	}
	n = a * b
	return n, n/b == a && (n < 0) == ((a < 0) != (b < 0))
}
