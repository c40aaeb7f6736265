package eval

import (
	"math"
	"math/big"
	"testing"

	"concordance/api"
	"concordance/plain"
)

// nothing is no value.
var nothing = api.Value{}

func num(n int64) api.Value { return api.Value{Kind: api.Int, Num: n} }

func str(s string) api.Value { return api.Value{Kind: api.Text, Text: s} }

// Codes, as the document puts them together.
var (
	counts   = []int{api.Add, api.Sub, api.Mul}
	compares = []int{api.Eq, api.Ne, api.Lt, api.Le, api.Gt, api.Ge}
	boths    = []int{api.And, api.Or}
)

// numbers are some, rising: those at which something changes.
var numbers = []int64{math.MinInt64, math.MinInt64 + 1, math.MinInt64/2 - 1, math.MinInt64 / 2, math.MinInt64/2 + 1, -4294967297, -4294967296, -3037000500, -3037000499, -4, -3, -2, -1, 0, 1, 2, 3, 4, 3037000499, 3037000500, 4294967296, 4294967297, math.MaxInt64/2 - 1, math.MaxInt64 / 2, math.MaxInt64/2 + 1, math.MaxInt64 - 1, math.MaxInt64}

// texts are some, rising.
var texts = []string{"", "\x01", "0", "1", "A", "a", "a ", "aa", "ab", "b", "null", "\x80", "\xff"}

// values are nothing, numbers and texts, rising.
func values() []api.Value {
	l := []api.Value{nothing}
	for _, n := range numbers {
		l = append(l, num(n))
	}
	for _, s := range texts {
		l = append(l, str(s))
	}
	return l
}

// same fails, unless a value and an error came out as they were asked: an Errno without a place, and beside an error nothing.
func same(t *testing.T, what string, v api.Value, err error, want api.Value, errno api.Errno) {
	t.Helper()
	e, at := plain.Place(err)
	if v != want || e != errno || at != -1 || err != nil && v != nothing {
		t.Errorf("%s: %v, error %d at %d, want %v, error %d", what, v, e, at, want, errno)
	}
}

// TestHolds: 11.1: a number is so, unless it is 0; nothing is not known; a text is ErrArg.
func TestHolds(t *testing.T) {
	for _, v := range values() {
		is, known, err := Holds(v)
		wantIs, wantKnown, want := v.Kind == api.Int && v.Num != 0, v.Kind == api.Int, api.OK
		if v.Kind == api.Text {
			want = api.ErrArg
		}
		if e, at := plain.Place(err); is != wantIs || known != wantKnown || e != want || at != -1 {
			t.Errorf("Holds(%v): %v, %v, error %d at %d, want %v, %v, error %d", v, is, known, e, at, wantIs, wantKnown, want)
		}
	}
}

// TestHoldsPlain: 11.1: ordinary values, said one by one.
func TestHoldsPlain(t *testing.T) {
	for _, c := range []struct {
		v         api.Value
		is, known bool
		err       api.Errno
	}{
		{nothing, false, false, api.OK},
		{num(0), false, true, api.OK},
		{num(1), true, true, api.OK},
		{num(-1), true, true, api.OK},
		{num(2), true, true, api.OK},
		{num(256), true, true, api.OK},
		{num(1 << 32), true, true, api.OK},
		{num(math.MaxInt64), true, true, api.OK},
		{num(math.MinInt64), true, true, api.OK},
		{str(""), false, false, api.ErrArg},
		{str("1"), false, false, api.ErrArg},
		{str("0"), false, false, api.ErrArg},
	} {
		is, known, err := Holds(c.v)
		if is != c.is || known != c.known || api.Tell(err) != c.err {
			t.Errorf("Holds(%v): %v, %v, %v, want %v, %v, error %d", c.v, is, known, err, c.is, c.known, c.err)
		}
	}
}

// exactly is what two numbers come to, however great it is.
func exactly(code int, a, b int64) *big.Int {
	x, y := big.NewInt(a), big.NewInt(b)
	switch code {
	case api.Add:
		return x.Add(x, y)
	case api.Sub:
		return x.Sub(x, y)
	}
	return x.Mul(x, y)
}

// counting fails, unless Count tells of two numbers what they come to, or that it does not fit.
func counting(t *testing.T, code int, a, b int64) {
	t.Helper()
	got, err := Count(code, num(a), num(b))
	n := exactly(code, a, b)
	want, errno := nothing, api.ErrRange
	if n.IsInt64() {
		want, errno = num(n.Int64()), api.OK
	}
	same(t, "Count "+named(code, num(a), num(b)), got, err, want, errno)
}

// TestCountNumbers: 11.1: sums, differences and products of numbers at which something changes, and of those beside them.
func TestCountNumbers(t *testing.T) {
	for _, code := range counts {
		for _, a := range numbers {
			for _, b := range numbers {
				for i := range int64(3) {
					for j := range int64(3) {
						counting(t, code, a+i-1, b+j-1)
					}
				}
			}
		}
	}
}

// TestCountDrawn: 11.1: numbers of all sizes, and the last products that fit.
func TestCountDrawn(t *testing.T) {
	d := die(7)
	for range 4000 {
		a, b := d.number(), d.number()
		for _, code := range counts {
			counting(t, code, a, b)
		}
		if a == 0 || a == -1 {
			continue
		}
		for i := range int64(5) {
			counting(t, api.Mul, a, math.MaxInt64/a+i-2)
			counting(t, api.Mul, a, math.MinInt64/a+i-2)
			counting(t, api.Mul, math.MaxInt64/a+i-2, a)
			counting(t, api.Mul, math.MinInt64/a+i-2, a)
			counting(t, api.Add, a, math.MaxInt64-a+i-2)
			counting(t, api.Add, a, math.MinInt64-a+i-2)
			counting(t, api.Sub, a, a-math.MaxInt64+i-2)
			counting(t, api.Sub, a, a-math.MinInt64+i-2)
		}
	}
}

// TestCountEdges: 11.1: the last ones that fit in 64 bits, and the first ones that do not.
func TestCountEdges(t *testing.T) {
	const most, least = math.MaxInt64, math.MinInt64
	for _, c := range []struct {
		code    int
		a, b, n int64
		err     api.Errno
	}{
		{api.Add, 2, 3, 5, api.OK},
		{api.Sub, 2, 3, -1, api.OK},
		{api.Mul, 2, 3, 6, api.OK},
		{api.Mul, -2, 3, -6, api.OK},
		{api.Mul, -2, -3, 6, api.OK},
		{api.Add, most, 0, most, api.OK},
		{api.Add, most - 1, 1, most, api.OK},
		{api.Add, most, 1, 0, api.ErrRange},
		{api.Add, 1, most, 0, api.ErrRange},
		{api.Add, most, most, 0, api.ErrRange},
		{api.Add, least + 1, -1, least, api.OK},
		{api.Add, least, -1, 0, api.ErrRange},
		{api.Add, -1, least, 0, api.ErrRange},
		{api.Add, least, least, 0, api.ErrRange},
		{api.Add, least, most, -1, api.OK},
		{api.Sub, most, 0, most, api.OK},
		{api.Sub, most, -1, 0, api.ErrRange},
		{api.Sub, least, 1, 0, api.ErrRange},
		{api.Sub, least, 0, least, api.OK},
		{api.Sub, 0, least, 0, api.ErrRange},
		{api.Sub, -1, least, most, api.OK},
		{api.Sub, 0, most, -most, api.OK},
		{api.Sub, -1, most, least, api.OK},
		{api.Sub, -2, most, 0, api.ErrRange},
		{api.Sub, least, least, 0, api.OK},
		{api.Sub, most, most, 0, api.OK},
		{api.Sub, most, least, 0, api.ErrRange},
		{api.Mul, least, 1, least, api.OK},
		{api.Mul, 1, least, least, api.OK},
		{api.Mul, least, -1, 0, api.ErrRange},
		{api.Mul, -1, least, 0, api.ErrRange},
		{api.Mul, most, -1, -most, api.OK},
		{api.Mul, -1, most, -most, api.OK},
		{api.Mul, least, 0, 0, api.OK},
		{api.Mul, 0, least, 0, api.OK},
		{api.Mul, most, 2, 0, api.ErrRange},
		{api.Mul, least / 2, 2, least, api.OK},
		{api.Mul, least / 2, -2, 0, api.ErrRange},
		{api.Mul, 1 << 32, 1 << 31, 0, api.ErrRange},
		{api.Mul, -1 << 32, 1 << 31, least, api.OK},
		{api.Mul, 1 << 32, 1 << 32, 0, api.ErrRange},
		{api.Mul, 3037000499, 3037000499, 9223372030926249001, api.OK},
		{api.Mul, 3037000500, 3037000500, 0, api.ErrRange},
		{api.Mul, least, least, 0, api.ErrRange},
		{api.Mul, most, most, 0, api.ErrRange},
	} {
		got, err := Count(c.code, num(c.a), num(c.b))
		want := nothing
		if c.err == api.OK {
			want = num(c.n)
		}
		same(t, "Count "+named(c.code, num(c.a), num(c.b)), got, err, want, c.err)
	}
}

// TestCountOthers: 11.1: a text is ErrArg, wherever it stands, ahead of nothing; nothing makes nothing, also where a sum would not fit.
func TestCountOthers(t *testing.T) {
	for _, code := range counts {
		for _, v := range values() {
			for _, s := range texts {
				got, err := Count(code, v, str(s))
				same(t, "Count "+named(code, v, str(s)), got, err, nothing, api.ErrArg)
				got, err = Count(code, str(s), v)
				same(t, "Count "+named(code, str(s), v), got, err, nothing, api.ErrArg)
			}
			if v.Kind == api.Text {
				continue
			}
			got, err := Count(code, v, nothing)
			same(t, "Count "+named(code, v, nothing), got, err, nothing, api.OK)
			got, err = Count(code, nothing, v)
			same(t, "Count "+named(code, nothing, v), got, err, nothing, api.OK)
		}
	}
}

// TestCompare: 11.1: each code of any two values: nothing, if one is; else as they stand to each other.
func TestCompare(t *testing.T) {
	l := values()
	for i, a := range l {
		for j, b := range l {
			asks := map[int]bool{api.Eq: i == j, api.Ne: i != j, api.Lt: i < j, api.Le: i <= j, api.Gt: i > j, api.Ge: i >= j}
			for _, code := range compares {
				want := num(0)
				if asks[code] {
					want = num(1)
				}
				if i == 0 || j == 0 {
					want = nothing
				}
				if got := Compare(code, a, b); got != want {
					t.Errorf("Compare %s: %v, want %v", named(code, a, b), got, want)
				}
			}
		}
	}
}

// TestBothPlain: 11.1: each two of yes, no and nothing; the document's example is among them.
func TestBothPlain(t *testing.T) {
	yes, no := num(1), num(0)
	for _, c := range []struct{ a, b, and, or api.Value }{
		{yes, yes, yes, yes},
		{yes, no, no, yes},
		{yes, nothing, nothing, yes},
		{no, yes, no, yes},
		{no, no, no, no},
		{no, nothing, no, nothing},
		{nothing, yes, nothing, yes},
		{nothing, no, no, nothing},
		{nothing, nothing, nothing, nothing},
	} {
		got, err := Both(api.And, c.a, c.b)
		same(t, "Both "+named(api.And, c.a, c.b), got, err, c.and, api.OK)
		got, err = Both(api.Or, c.a, c.b)
		same(t, "Both "+named(api.Or, c.a, c.b), got, err, c.or, api.OK)
	}
}

// level is how much a value holds: no, nothing, yes: so and is the least, or the greatest of both.
func level(v api.Value) int {
	switch {
	case v.Kind == api.Null:
		return 1
	case v.Num == 0:
		return 0
	}
	return 2
}

// TestBoth: 11.1: any two values: YES is 1, whatever held; a text is ErrArg, also where the other side would settle it.
func TestBoth(t *testing.T) {
	of := [...]api.Value{num(0), nothing, num(1)}
	for _, a := range values() {
		for _, b := range values() {
			and, or, errno := nothing, nothing, api.ErrArg
			if a.Kind != api.Text && b.Kind != api.Text {
				and, or, errno = of[min(level(a), level(b))], of[max(level(a), level(b))], api.OK
			}
			got, err := Both(api.And, a, b)
			same(t, "Both "+named(api.And, a, b), got, err, and, errno)
			got, err = Both(api.Or, a, b)
			same(t, "Both "+named(api.Or, a, b), got, err, or, errno)
		}
	}
}

// TestAnyValue: P1: no code and no value makes a call fail, whether it may be or not.
func TestAnyValue(t *testing.T) {
	l := append(values(), api.Value{Kind: 3}, api.Value{Kind: -1, Num: 5, Text: "x"}, api.Value{Kind: math.MaxInt}, api.Value{Kind: math.MinInt}, api.Value{Num: 5}, api.Value{Text: "x"}, api.Value{Kind: api.Int, Text: "x"}, api.Value{Kind: api.Text, Num: 7}, str("\x00"), str(string(make([]byte, 1000))))
	codes := []int{math.MinInt, -1, math.MaxInt, 99}
	for code := range api.Match + 3 {
		codes = append(codes, code)
	}
	for _, a := range l {
		_, _, err := Holds(a)
		told(t, err)
		for _, b := range l {
			for _, code := range codes {
				_, err := Count(code, a, b)
				told(t, err)
				_, err = Both(code, a, b)
				told(t, err)
				Compare(code, a, b)
			}
		}
	}
}

// told fails, unless an error is nil, or an Errno without a place.
func told(t *testing.T, err error) {
	t.Helper()
	if e, at := plain.Place(err); e < api.OK || at != -1 {
		t.Errorf("error %d at %d", e, at)
	}
}
