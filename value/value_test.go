package value

import (
	"errors"
	"math"
	"slices"
	"strings"
	"testing"

	"concordance/api"
	"concordance/plain"
)

func nothing() api.Value              { return api.Value{} }
func number(n int64) api.Value        { return api.Value{Kind: api.Int, Num: n} }
func text(s string) api.Value         { return api.Value{Kind: api.Text, Text: s} }
func list(l ...api.Value) []api.Value { return l }

// longest is a text of just as many letters as a text may have.
func longest() string { return strings.Repeat("x", api.MaxLetter) }

// TestRight: promise 1.1.
func TestRight(t *testing.T) {
	for _, c := range []struct {
		v    api.Value
		want bool
	}{
		{nothing(), true},
		{api.Value{Kind: api.Null, Num: 1}, false},
		{api.Value{Kind: api.Null, Num: math.MinInt64}, false},
		{api.Value{Kind: api.Null, Text: "a"}, false},
		{api.Value{Kind: api.Null, Text: "\x00"}, false},
		{number(0), true},
		{number(1), true},
		{number(-1), true},
		{number(math.MinInt64), true},
		{number(math.MaxInt64), true},
		{api.Value{Kind: api.Int, Text: "a"}, false},
		{api.Value{Kind: api.Int, Num: 3, Text: "3"}, false},
		{api.Value{Kind: api.Int, Text: "\x00"}, false},
		{text(""), true},
		{text("a"), true},
		{text("it's"), true},
		{text("\x01\x7f\x80\xff"), true},
		{text(longest()), true},
		{text(longest() + "x"), false},
		{text(strings.Repeat("\xc3\xa9", api.MaxLetter/2)), true},
		{text(strings.Repeat("\xc3\xa9", api.MaxLetter/2+1)), false},
		{text(strings.Repeat("x", 1<<20)), false},
		{text("\x00"), false},
		{text("\x00ab"), false},
		{text("a\x00b"), false},
		{text("ab\x00"), false},
		{text(longest()[1:] + "\x00"), false},
		{api.Value{Kind: api.Text, Num: 1}, false},
		{api.Value{Kind: api.Text, Num: -1, Text: "a"}, false},
		{api.Value{Kind: -1}, false},
		{api.Value{Kind: 3}, false},
		{api.Value{Kind: 256}, false},
		{api.Value{Kind: 256 + api.Int}, false},
		{api.Value{Kind: math.MinInt}, false},
		{api.Value{Kind: math.MaxInt}, false},
	} {
		if got := Right(c.v); got != c.want {
			t.Errorf("Right(%v) = %v, want %v", c.v, got, c.want)
		}
	}
}

// rising has values, also such that are not Right, each ahead of the next one.
func rising() []api.Value {
	return list(
		api.Value{Kind: math.MinInt, Num: 9, Text: "z"},
		api.Value{Kind: -1, Num: math.MaxInt64, Text: "z"},
		api.Value{Kind: api.Null, Num: math.MinInt64, Text: "z"},
		api.Value{Kind: api.Null, Num: -1},
		nothing(),
		api.Value{Kind: api.Null, Text: "a"},
		api.Value{Kind: api.Null, Num: 1},
		number(math.MinInt64),
		number(math.MinInt64+1),
		number(-256),
		number(-2),
		number(-1),
		number(0),
		api.Value{Kind: api.Int, Text: "a"},
		number(1),
		number(255),
		number(256),
		number(1<<32),
		number(math.MaxInt64-1),
		number(math.MaxInt64),
		api.Value{Kind: api.Text, Num: -1, Text: "z"},
		text(""),
		text("\x00"),
		text("\x00\x00"),
		text("\x01"),
		text("10"),
		text("9"),
		text("B"),
		text("a"),
		text("a\x00"),
		text("a\x01"),
		text("aa"),
		text("ab"),
		text("b"),
		text("\x7f"),
		text("\x80"),
		text("\xff"),
		text("\xff\x01"),
		api.Value{Kind: api.Text, Num: 1},
		api.Value{Kind: 3},
		api.Value{Kind: math.MaxInt},
	)
}

// TestCompare: promise 1.1: each two of a rising list, either way round.
func TestCompare(t *testing.T) {
	l := rising()
	for i, a := range l {
		for j, b := range l {
			if got, want := Compare(a, b), sign(i-j); got != want {
				t.Errorf("Compare(%#v, %#v) = %d, want %d", a, b, got, want)
			}
		}
	}
}

func sign(n int) int {
	if n < 0 {
		return -1
	}
	if n > 0 {
		return 1
	}
	return 0
}

// TestOrder: promise 1.1: each two of rising lists, either way round.
func TestOrder(t *testing.T) {
	l := [][]api.Value{
		nil,
		list(nothing()),
		list(nothing(), nothing()),
		list(nothing(), nothing(), number(5)),
		list(nothing(), number(-1)),
		list(nothing(), text("z")),
		list(number(-3)),
		list(number(2)),
		list(number(2), nothing()),
		list(number(2), text("a"), text("b")),
		list(number(2), text("ab"), text("a")),
		list(number(2), text("b")),
		list(number(3)),
		list(text("")),
		list(text(""), text("b")),
		list(text("a")),
		list(text("a"), text("z")),
		list(text("ab")),
		list(text("b")),
	}
	for i, a := range l {
		for j, b := range l {
			if got, want := Order(a, b), sign(i-j); got != want {
				t.Errorf("Order(%#v, %#v) = %d, want %d", a, b, got, want)
			}
		}
	}
	if got := Order([]api.Value{}, nil); got != 0 {
		t.Errorf("Order of two empty lists = %d, want 0", got)
	}
}

// written has lists, and the bytes they are.
func written() map[string][]api.Value {
	return map[string][]api.Value{
		"":                                     nil,
		"\x01":                                 list(nothing()),
		"\x01\x01":                             list(nothing(), nothing()),
		"\x02\x80\x00\x00\x00\x00\x00\x00\x00": list(number(0)),
		"\x02\x80\x00\x00\x00\x00\x00\x00\x01": list(number(1)),
		"\x02\x80\x01\x02\x03\x04\x05\x06\x07": list(number(0x01020304050607)),
		"\x02\x7f\xff\xff\xff\xff\xff\xff\xff": list(number(-1)),
		"\x02\x7f\xff\xff\xff\xff\xff\xff\x00": list(number(-256)),
		"\x02\x00\x00\x00\x00\x00\x00\x00\x00": list(number(math.MinInt64)),
		"\x02\xff\xff\xff\xff\xff\xff\xff\xff": list(number(math.MaxInt64)),
		"\x03\x00":                             list(text("")),
		"\x03a\x00":                            list(text("a")),
		"\x03\x01\x02\x03\xff\x00":             list(text("\x01\x02\x03\xff")),
		"\x03\x00\x03\x00":                     list(text(""), text("")),
		"\x03" + longest() + "\x00":            list(text(longest())),
		"\x01\x02\x80\x00\x00\x00\x00\x00\x00\x01\x03a\x00": list(nothing(), number(1), text("a")),
		"\x03b\x00\x01\x02\x80\x00\x00\x00\x00\x00\x00\x03": list(text("b"), nothing(), number(3)),
	}
}

// TestKey: promise 1.2.
func TestKey(t *testing.T) {
	for want, l := range written() {
		if got, err := Key(l); got != want || err != nil {
			t.Errorf("Key(%#v) = %q, %v, want %q", l, got, err, want)
		}
	}
}

// TestKeyWrong: promise 1.2: the first one that is not Right is told, and nothing beside it.
func TestKeyWrong(t *testing.T) {
	for _, wrong := range []api.Value{
		text(longest() + "x"),
		text("a\x00"),
		{Kind: api.Null, Num: 1},
		{Kind: api.Null, Text: "a"},
		{Kind: api.Int, Text: "a"},
		{Kind: api.Text, Num: 1},
		{Kind: 3},
		{Kind: -1},
	} {
		for place := range 4 {
			l := append(list(nothing(), number(1), text("a"))[:place], wrong, number(2), wrong)
			got, err := Key(l)
			e, at := plain.Place(err)
			if got != "" || e != api.ErrArg || at != place {
				t.Errorf("Key(%#v) = %q, %v at %d, want error %v at %d", l, got, err, at, api.ErrArg, place)
			}
		}
	}
}

// TestRead: promise 1.2.
func TestRead(t *testing.T) {
	for s, want := range written() {
		if got, err := Read(s); !slices.Equal(got, want) || err != nil {
			t.Errorf("Read(%q) = %#v, %v, want %#v", s, got, err, want)
		}
	}
}

// refused says whether bytes are told to be no list, just as P2 and P3 ask.
func refused(s string) bool {
	l, err := Read(s)
	var at *api.At
	return len(l) == 0 && api.Tell(err) == api.ErrForm && !errors.As(err, &at)
}

// TestReadWrong: promise 1.2: bytes that no list is written in.
func TestReadWrong(t *testing.T) {
	for _, s := range []string{
		"\x00",
		"\x04",
		"\xff",
		"a",
		"\x02",
		"\x02\x80\x00\x00\x00\x00\x00\x00",
		"\x03",
		"\x03a",
		"\x03" + longest(),
		"\x03" + longest() + "x",
		"\x03" + longest() + "x\x00",
		"\x03" + strings.Repeat("x", 1<<20) + "\x00",
		"\x03\x00\x00",
		"\x01\x00",
		"\x02\x80\x00\x00\x00\x00\x00\x00\x01\x00",
		"\x03a\x00b\x00",
	} {
		for _, ahead := range []string{"", "\x01", "\x03a\x00", "\x02\x80\x00\x00\x00\x00\x00\x00\x01"} {
			if !refused(ahead + s) {
				t.Errorf("Read(%.60q) is not refused with error %v alone", ahead+s, api.ErrForm)
			}
		}
	}
}

// few are all texts of up to so many of these letters.
func few(letters string, most int) []string {
	all := []string{""}
	for from := 0; most > 0; most-- {
		to := len(all)
		for _, s := range all[from:to] {
			for i := range len(letters) {
				all = append(all, s+letters[i:i+1])
			}
		}
		from = to
	}
	return all
}

// fewKeys are the Keys, of at most so many bytes, of all lists without numbers, with texts of these letters.
func fewKeys(t *testing.T, letters string, most int) map[string][]api.Value {
	keys := map[string][]api.Value{}
	var grow func(l []api.Value)
	values := list(nothing())
	for _, s := range few(letters, most-2) {
		values = append(values, text(s))
	}
	grow = func(l []api.Value) {
		s, err := Key(l)
		if err != nil {
			t.Fatalf("Key(%#v): %v", l, err)
		}
		if len(s) > most {
			return
		}
		if keys[s] != nil {
			t.Errorf("%q is Key of %#v and of %#v", s, l, keys[s])
		}
		keys[s] = l
		for _, v := range values {
			grow(append(slices.Clone(l), v))
		}
	}
	grow([]api.Value{})
	return keys
}

// TestReadIsKeyTurnedRound: promise 1.2: of all short bytes, those that are a Key are read as its list, all others are refused.
func TestReadIsKeyTurnedRound(t *testing.T) {
	const most = 5
	keys := fewKeys(t, "\x01\x03\x04a", most)
	for _, s := range few("\x00\x01\x03\x04a", most) {
		want, there := keys[s]
		if !there {
			if !refused(s) {
				t.Errorf("Read(%q) is not refused, but it is no list", s)
			}
			continue
		}
		if got, err := Read(s); err != nil || !slices.Equal(got, want) {
			t.Errorf("Read(%q) = %#v, %v, want %#v", s, got, err, want)
		}
	}
}

// die has numbers that look drawn, the same each time.
type die uint64

func (d *die) below(n int) int {
	*d = *d*6364136223846793005 + 1442695040888963407
	return int(uint64(*d>>33) % uint64(n))
}

// rightList draws a list of few values that are Right, such that many lists begin alike.
func (d *die) rightList() []api.Value {
	var l []api.Value
	for range d.below(5) {
		switch d.below(3) {
		case 0:
			l = append(l, nothing())
		case 1:
			l = append(l, number(int64(d.below(5)-2)<<d.below(63)))
		case 2:
			l = append(l, text([]string{"", "\x01", "a", "a\x01", "ab", "b", "\xff", longest()}[d.below(8)]))
		}
	}
	return l
}

// TestBytesHaveTheOrder: promises 1.1 and 1.2 together: Keys stand byte by byte as their lists stand, and are read back.
func TestBytesHaveTheOrder(t *testing.T) {
	d := die(1)
	for range 20_000 {
		a, b := d.rightList(), d.rightList()
		s, e := Key(a)
		u, f := Key(b)
		if e != nil || f != nil {
			t.Fatalf("Key(%#v), Key(%#v): %v, %v", a, b, e, f)
		}
		if got, want := Order(a, b), strings.Compare(s, u); got != want {
			t.Errorf("Order(%#v, %#v) = %d, but their Keys %q, %q stand %d", a, b, got, s, u, want)
		}
		if l, err := Read(s); err != nil || !slices.Equal(l, a) {
			t.Errorf("Read(%q) = %#v, %v, want %#v", s, l, err, a)
		}
	}
}

// TestReadAnyBytes: promise 1.2 and P1: spoilt Keys are a list of which Key tells just them, or refused.
func TestReadAnyBytes(t *testing.T) {
	d := die(2)
	for range 20_000 {
		s, _ := Key(d.rightList())
		b := []byte(s)
		for range d.below(3) {
			if len(b) > 0 {
				b[d.below(len(b))] = byte(d.below(5))
			}
		}
		b = b[:len(b)-d.below(2)*d.below(len(b)+1)]
		l, err := Read(string(b))
		if err != nil {
			if !refused(string(b)) {
				t.Errorf("Read(%q) = %#v, %v", b, l, err)
			}
			continue
		}
		if k, err := Key(l); k != string(b) || err != nil {
			t.Errorf("Read(%q) = %#v, but its Key is %q, %v", b, l, k, err)
		}
	}
}

// TestListsAreLeftAlone: P4: what is handed in, and what stands behind its length, stays as it is.
func TestListsAreLeftAlone(t *testing.T) {
	all := list(text("b"), number(1), nothing(), text("a\x00"), text("behind"))
	before := slices.Clone(all)
	Key(all[:3])
	Key(all[:4])
	Order(all[:3], all[1:4])
	if !slices.Equal(all, before) {
		t.Errorf("lists that were handed in are %#v, were %#v", all, before)
	}
}

// TestAnswersAreFresh: P4: who writes into an answer changes no other one.
func TestAnswersAreFresh(t *testing.T) {
	const s = "\x03a\x00\x01"
	first, _ := Read(s)
	second, _ := Read(s)
	first[0] = number(7)
	_ = append(first[:1], number(8))
	third, _ := Read(s)
	want := list(text("a"), nothing())
	if !slices.Equal(second, want) || !slices.Equal(third, want) {
		t.Errorf("Read(%q) = %#v, then %#v, want %#v", s, second, third, want)
	}
}
