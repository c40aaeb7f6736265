package posting

import (
	"errors"
	"math"
	"slices"
	"strings"
	"testing"

	"concordance/api"
)

const (
	lastRow = 1 << 30   // the greatest row that may be
	lastAt  = 1<<30 - 1 // the greatest place that may be
)

// list has places, of each its row and where it stands in it.
func list(numbers ...int) []api.Place {
	var l []api.Place
	for i := 0; i+1 < len(numbers); i += 2 {
		l = append(l, api.Place{Row: numbers[i], At: numbers[i+1]})
	}
	return l
}

func sign(n int) int {
	return min(max(n, -1), 1)
}

// TestCompare: 6.1: each two of a rising list, also of places that may not be, either way round.
func TestCompare(t *testing.T) {
	l := list(
		math.MinInt, math.MaxInt,
		-1, math.MaxInt,
		0, math.MinInt,
		0, 0,
		0, math.MaxInt,
		1, math.MinInt,
		1, -1,
		1, 0,
		1, 1,
		1, lastAt,
		2, 0,
		lastRow, 0,
		lastRow, lastAt,
		math.MaxInt, math.MinInt,
		math.MaxInt, 0,
		math.MaxInt, math.MaxInt,
	)
	for i, a := range l {
		for j, b := range l {
			if got, want := sign(Compare(a, b)), sign(i-j); got != want {
				t.Errorf("Compare(%v, %v) = %d, want %d", a, b, got, want)
			}
		}
	}
}

// written has lists that are Right, and the bytes they are: 6.1.
func written() map[string][]api.Place {
	return map[string][]api.Place{
		"":                                 nil,
		"\x03\x00":                         list(1, 0),
		"\x03\x05":                         list(1, 5),
		"\x03\x7f":                         list(1, 127),
		"\x03\x80\x01":                     list(1, 128),
		"\x03\x81\x01":                     list(1, 129),
		"\x03\xff\x7f":                     list(1, 1<<14-1),
		"\x03\x80\x80\x01":                 list(1, 1<<14),
		"\x05\x00":                         list(2, 0),
		"\x7f\x00":                         list(63, 0),
		"\x81\x01\x00":                     list(64, 0),
		"\x03\x00\x02":                     list(1, 0, 1, 1),
		"\x03\x00\x02\x02":                 list(1, 0, 1, 1, 1, 2),
		"\x03\x05\x0c":                     list(1, 5, 1, 11),
		"\x03\x00\x7e":                     list(1, 0, 1, 63),
		"\x03\x00\x80\x01":                 list(1, 0, 1, 64),
		"\x03\x00\x03\x00":                 list(1, 0, 2, 0),
		"\x03\x09\x05\x04":                 list(1, 9, 3, 4),
		"\x05\x03\x02\x07\x00":             list(2, 3, 2, 4, 5, 0),
		"\x07\x00\x7e\x81\x02\x80\x01\x02": list(3, 0, 3, 63, 131, 128, 131, 129),
		"\x03\xff\xff\xff\xff\x03":         list(1, lastAt),
		"\x81\x80\x80\x80\x08\x00":         list(lastRow, 0),
		"\x81\x80\x80\x80\x08\xff\xff\xff\xff\x03":     list(lastRow, lastAt),
		"\x03\x00\xfe\xff\xff\xff\x07":                 list(1, 0, 1, lastAt),
		"\x03\x00\xff\xff\xff\xff\x07\x00":             list(1, 0, lastRow, 0),
		"\x03\xff\xff\xff\xff\x03\x03\x00":             list(1, lastAt, 2, 0),
		"\xff\xff\xff\xff\x07\x00\x03\x00":             list(lastRow-1, 0, lastRow, 0),
		"\x81\x80\x80\x80\x08\xfe\xff\xff\xff\x03\x02": list(lastRow, lastAt-1, lastRow, lastAt),
	}
}

// wrong has lists that are not Right: 6.1.
func wrong() [][]api.Place {
	return [][]api.Place{
		list(0, 0),
		list(0, 1),
		list(-1, 0),
		list(1, -1),
		list(1, lastAt+1),
		list(lastRow+1, 0),
		list(math.MinInt, 0),
		list(math.MaxInt, 0),
		list(1, math.MinInt),
		list(1, math.MaxInt),
		list(1<<32+1, 0),
		list(1, 1<<32),
		list(1, 0, 1, 0),
		list(1, 5, 1, 5),
		list(1, 5, 1, 4),
		list(2, 0, 1, 5),
		list(2, 0, 1, 0),
		list(1, 0, 2, 0, 1, 1),
		list(1, 0, 2, 0, 2, 0),
		list(1, 0, 0, 0),
		list(1, 0, 1, -1),
		list(1, 0, 2, -1),
		list(1, 0, 2, lastAt+1),
		list(1, 0, 1, lastAt+1),
		list(lastRow, lastAt, lastRow, lastAt+1),
		list(lastRow, lastAt, lastRow+1, 0),
		list(0, 0, 1, 0),
		list(1, -1, 1, 0),
		list(-1, 0, 1, 0, 2, 0),
	}
}

// TestRight: 6.1.
func TestRight(t *testing.T) {
	for _, l := range written() {
		if !Right(l) {
			t.Errorf("Right(%v) = false", l)
		}
	}
	if !Right([]api.Place{}) {
		t.Error("an empty list is not Right")
	}
	for _, l := range wrong() {
		if Right(l) {
			t.Errorf("Right(%v) = true", l)
		}
	}
}

// TestWrite: 6.1.
func TestWrite(t *testing.T) {
	for want, l := range written() {
		if got, err := Write(l); got != want || err != nil {
			t.Errorf("Write(%v) = %q, %v, want %q", l, got, err, want)
		}
	}
}

// TestWriteWrong: 6.1, P2, P3.
func TestWriteWrong(t *testing.T) {
	for _, l := range wrong() {
		if got, err := Write(l); got != "" || err != api.ErrArg {
			t.Errorf("Write(%v) = %q, %v, want error %v", l, got, err, api.ErrArg)
		}
	}
}

// TestRead: 6.1.
func TestRead(t *testing.T) {
	for s, want := range written() {
		if got, err := Read(s); !slices.Equal(got, want) || err != nil {
			t.Errorf("Read(%q) = %v, %v, want %v", s, got, err, want)
		}
	}
}

// refused says whether bytes are told to be no places, just as P2 and P3 ask.
func refused(s string) bool {
	l, err := Read(s)
	var at *api.At
	return len(l) == 0 && err == api.ErrForm && !errors.As(err, &at)
}

// TestReadWrong: 6.1: bytes that Write never tells, alone and behind places.
func TestReadWrong(t *testing.T) {
	for _, s := range []string{
		// A row, and no place.
		"\x03",
		// More of a number is to follow.
		"\x80",
		"\x03\x80",
		"\x03\x00\x80",
		"\x03\xff\xff\xff\xff",
		"\xff",
		// No step.
		"\x00",
		"\x00\x00",
		"\x03\x00\x00",
		"\x03\x00\x02\x00",
		// Another row, but no step to it.
		"\x01\x00",
		"\x01\x05",
		"\x03\x00\x01\x01",
		"\x03\x05\x01\x05",
		"\x03\x05\x01\x09",
		// Numbers that are written too long.
		"\x83\x00\x00",
		"\x83\x80\x00\x00",
		"\x83\x80\x80\x80\x00\x00",
		"\x83\x80\x80\x80\x80\x80\x80\x80\x80\x00\x00",
		"\x03\x80\x00",
		"\x03\x85\x00",
		"\x03\xff\xff\xff\xff\x83\x00",
		"\x03" + strings.Repeat("\x80", 9) + "\x00",
		"\x03" + strings.Repeat("\x80", 1<<20) + "\x00",
		"\x03\x00\x82\x00",
		"\x03\x00\x82\x80\x00",
		"\x03\x00\x82\x80\x80\x80\x80\x00",
		// A row that is too great.
		"\x83\x80\x80\x80\x08\x00",
		"\x03\x00\x81\x80\x80\x80\x08\x00",
		"\x81\x80\x80\x80\x08\x00\x03\x00",
		"\xff\xff\xff\xff\x0f\x00",
		"\x83\x80\x80\x80\x10\x00",
		"\x83\x80\x80\x80\x20\x00",
		"\x83\x80\x80\x80\x80\x01\x00",
		"\xff\xff\xff\xff\xff\xff\xff\xff\xff\x01\x00",
		// A place that is too great.
		"\x03\x80\x80\x80\x80\x04",
		"\x03\x80\x80\x80\x80\x10",
		"\x03\x80\x80\x80\x80\x80\x01",
		"\x03\xff\xff\xff\xff\xff\xff\xff\xff\xff\x01",
		"\x03\x83\x80\x80\x80\x80\x80\x80\x80\x80\x02",
		// A step that is too great.
		"\x03\x00\x80\x80\x80\x80\x08",
		"\x03\x01\xfe\xff\xff\xff\x07",
		"\x03\xff\xff\xff\xff\x03\x02",
		"\x03\x00\x82\x80\x80\x80\x10",
		"\x03\x00\x82\x80\x80\x80\x80\x01",
		strings.Repeat("\xff", 1<<20),
		strings.Repeat("\x00", 1<<20),
	} {
		for _, ahead := range []string{"", "\x03\x00\x02", "\x05\x03\x05\x00"} {
			if !refused(ahead + s) {
				t.Errorf("Read(%.60q) is not refused with error %v alone", ahead+s, api.ErrForm)
			}
		}
	}
	// Behind places these would be right.
	for _, s := range []string{"\x02", "\x02\x02", "\x80\x01", "\x04\x03\x00"} {
		if !refused(s) {
			t.Errorf("Read(%q), a step in no row, is not refused with error %v alone", s, api.ErrForm)
		}
	}
}

// holds fails, unless a list is as it is to be.
func holds(t *testing.T, what string, got, want []api.Place) {
	t.Helper()
	if !slices.Equal(got, want) {
		t.Errorf("%s = %v, want %v", what, got, want)
	}
}

// TestMerge: 6.2.
func TestMerge(t *testing.T) {
	holds(t, "Merge of nothing", Merge(nil, []api.Place{}), nil)
	holds(t, "Merge with nothing", Merge(list(1, 2, 3, 4), nil), list(1, 2, 3, 4))
	holds(t, "Merge of nothing with some", Merge(nil, list(1, 2, 3, 4)), list(1, 2, 3, 4))
	holds(t, "Merge of one with itself", Merge(list(1, 2, 3, 4), list(1, 2, 3, 4)), list(1, 2, 3, 4))
	holds(t, "Merge of rows", Merge(list(1, 9, 3, 0), list(2, 5)), list(1, 9, 2, 5, 3, 0))
	holds(t, "Merge of one row", Merge(list(1, 0, 1, 4), list(1, 2, 1, 4, 1, 7)), list(1, 0, 1, 2, 1, 4, 1, 7))
	holds(t, "Merge of the greatest", Merge(list(lastRow, lastAt), list(1, 0, lastRow, lastAt)), list(1, 0, lastRow, lastAt))
}

// TestWithout: 6.2.
func TestWithout(t *testing.T) {
	l := list(1, 0, 2, 1, 2, 3, 4, 0)
	holds(t, "Without a row that is there", Without(l, 2), list(1, 0, 4, 0))
	holds(t, "Without the first one", Without(l, 1), list(2, 1, 2, 3, 4, 0))
	holds(t, "Without the last one", Without(l, 4), list(1, 0, 2, 1, 2, 3))
	holds(t, "Without a row that is not there", Without(l, 3), l)
	holds(t, "Without row 0", Without(l, 0), l)
	holds(t, "Without all", Without(list(7, 0, 7, 1), 7), nil)
	holds(t, "Without of nothing", Without(nil, 1), nil)
	for _, row := range [...]int{-1, math.MinInt, math.MaxInt, 1<<32 + 2} {
		holds(t, "Without a row that may not be", Without(l, row), l)
	}
}

// TestRows: 6.2.
func TestRows(t *testing.T) {
	for _, c := range []struct {
		l    []api.Place
		want []int
	}{
		{nil, nil},
		{list(1, 0), []int{1}},
		{list(1, 0, 1, 1, 1, 2), []int{1}},
		{list(1, 0, 2, 0, 2, 5, 9, 1), []int{1, 2, 9}},
		{list(3, 7, lastRow, 0, lastRow, lastAt), []int{3, lastRow}},
	} {
		if got := Rows(c.l); !slices.Equal(got, c.want) {
			t.Errorf("Rows(%v) = %v, want %v", c.l, got, c.want)
		}
	}
}

// TestFollow: 6.2.
func TestFollow(t *testing.T) {
	holds(t, "Follow of nothing", Follow(nil, nil), nil)
	holds(t, "Follow behind nothing", Follow(nil, list(1, 1)), nil)
	holds(t, "nothing behind some", Follow(list(1, 0), nil), nil)
	holds(t, "right behind", Follow(list(1, 0), list(1, 1)), list(1, 1))
	holds(t, "right ahead", Follow(list(1, 1), list(1, 0)), nil)
	holds(t, "at the same place", Follow(list(1, 1), list(1, 1)), nil)
	holds(t, "two further on", Follow(list(1, 0), list(1, 2)), nil)
	holds(t, "in the next row", Follow(list(1, 0), list(2, 1)), nil)
	holds(t, "at a row's beginning", Follow(list(1, 0, 1, lastAt), list(2, 0)), nil)
	holds(t, "a list behind itself", Follow(list(1, 0, 1, 1, 1, 2, 1, 4), list(1, 0, 1, 1, 1, 2, 1, 4)), list(1, 1, 1, 2))
	holds(t, "several rows", Follow(list(1, 3, 2, 0, 4, 8), list(1, 2, 1, 4, 2, 1, 3, 1, 4, 9)), list(1, 4, 2, 1, 4, 9))
	holds(t, "the greatest", Follow(list(lastRow, lastAt-1, lastRow, lastAt), list(lastRow, lastAt)), list(lastRow, lastAt))
}

// TestNear: 6.2.
func TestNear(t *testing.T) {
	for _, c := range []struct {
		a, b []api.Place
		far  int
		want []int
	}{
		{nil, nil, 0, nil},
		{nil, list(1, 0), 5, nil},
		{list(1, 0), nil, 5, nil},
		{list(1, 0), list(1, 0), 0, []int{1}},
		{list(1, 0), list(1, 1), 0, nil},
		{list(1, 0), list(1, 1), 1, []int{1}},
		{list(1, 1), list(1, 0), 1, []int{1}}, // either may stand first
		{list(1, 0), list(1, 3), 2, nil},
		{list(1, 0), list(1, 3), 3, []int{1}},
		{list(1, 3), list(1, 0), 2, nil},
		{list(1, 3), list(1, 0), 3, []int{1}},
		{list(1, 0), list(2, 0), lastAt, nil},
		{list(1, 0, 1, 1), list(1, 0, 1, 1), 9, []int{1}}, // a row once
		{list(1, 0, 1, 50), list(1, 20, 1, 52), 2, []int{1}},
		{list(1, 0, 2, 0, 3, 9, 4, 4), list(1, 5, 2, 2, 3, 9, 4, 2), 2, []int{2, 3, 4}},
		{list(1, 0), list(1, lastAt), lastAt, []int{1}},
		{list(1, 0), list(1, lastAt), lastAt - 1, nil},
		{list(1, lastAt), list(1, 0), math.MaxInt, []int{1}},
		{list(1, 0, lastRow, 7), list(1, lastAt, lastRow, 0), math.MaxInt, []int{1, lastRow}},
		{list(1, 0), list(1, 0), -1, nil}, // nothing is nearer than that
		{list(1, 0), list(1, 0), math.MinInt, nil},
		{list(1, 0, 1, 5), list(1, 1, 1, 6), -1, nil},
	} {
		if got := Near(c.a, c.b, c.far); !slices.Equal(got, c.want) {
			t.Errorf("Near(%v, %v, %d) = %v, want %v", c.a, c.b, c.far, got, c.want)
		}
	}
}

// TestAnythingEnds: P1: lists that are not Right, and numbers beyond all bounds, are answered, too.
func TestAnythingEnds(t *testing.T) {
	numbers := [...]int{math.MinInt, -1, 0, 1, 2, lastAt, lastRow, math.MaxInt}
	d := die(4)
	strange := func() []api.Place {
		var l []api.Place
		for range d.below(6) {
			l = append(l, api.Place{Row: numbers[d.below(8)], At: numbers[d.below(8)]})
		}
		return l
	}
	for range 20_000 {
		a, b, n := strange(), strange(), numbers[d.below(8)]
		Merge(a, b)
		Without(a, n)
		Rows(a)
		Follow(a, b)
		Near(a, b, n)
		if got, want := Right(a), plainRight(a); got != want {
			t.Fatalf("Right(%v) = %v, want %v", a, got, want)
		}
		if s, err := Write(a); (err == nil) != plainRight(a) || err != nil && (s != "" || err != api.ErrArg) {
			t.Fatalf("Write(%v) = %q, %v", a, s, err)
		}
	}
}

// TestLongLists: P1, 'Limits': lists of many places take no longer than their lengths.
func TestLongLists(t *testing.T) {
	const n = 1 << 20
	var a, b []api.Place
	for i := range n {
		a = append(a, api.Place{Row: 1 + i/8, At: i % 8 * 3})
		b = append(b, api.Place{Row: 1 + i/8, At: i%8*3 + 1})
	}
	s, err := Write(a)
	if err != nil {
		t.Fatal(err)
	}
	if l, err := Read(s); err != nil || !slices.Equal(l, a) {
		t.Errorf("%d places are not read back: %v", n, err)
	}
	if l := Merge(a, b); len(l) != 2*n || !Right(l) {
		t.Errorf("Merge has %d places, Right: %v", len(l), Right(l))
	}
	if l := Follow(a, b); !slices.Equal(l, b) {
		t.Errorf("Follow has %d places, want %d", len(l), n)
	}
	if l := Near(a, b, 1); len(l) != n/8 {
		t.Errorf("Near has %d rows, want %d", len(l), n/8)
	}
	if l := Without(a, 1); len(l) != n-8 {
		t.Errorf("Without has %d places, want %d", len(l), n-8)
	}
	if l := Rows(a); len(l) != n/8 {
		t.Errorf("Rows has %d rows, want %d", len(l), n/8)
	}
}

// answers are all lists that come of two lists.
func answers(a, b []api.Place) (places [][]api.Place, found [][]int) {
	return [][]api.Place{Merge(a, b), Merge(a, nil), Merge(nil, b), Without(a, 3), Without(b, 9), Follow(a, b)},
		[][]int{Rows(a), Near(a, b, 1)}
}

// TestListsAreLeftAlone: P4: what is handed in, and what stands behind its length, stays as it is.
func TestListsAreLeftAlone(t *testing.T) {
	a := list(1, 0, 1, 1, 2, 0, 3, 4, 4, 4, 9, 9)
	b := list(1, 1, 1, 2, 2, 1, 3, 4, 4, 5, 8, 8)
	wasA, wasB := slices.Clone(a), slices.Clone(b)
	for n := range len(a) + 1 {
		answers(a[:n], b[:n])
		Write(a[:n])
		Right(b[:n])
		if !slices.Equal(a, wasA) || !slices.Equal(b, wasB) {
			t.Fatalf("lists that were handed in are %v, %v, were %v, %v", a, b, wasA, wasB)
		}
	}
}

// TestAnswersAreFresh: P4: who writes into an answer, or behind it, changes neither what was handed in nor another answer.
func TestAnswersAreFresh(t *testing.T) {
	a, b := list(1, 0, 2, 0, 4, 4), list(1, 1, 2, 1, 5, 5)
	wasA, wasB := slices.Clone(a), slices.Clone(b)
	want, wantRows := answers(a, b)
	for i := range want {
		want[i] = slices.Clone(want[i])
	}
	for i := range wantRows {
		wantRows[i] = slices.Clone(wantRows[i])
	}
	got, gotRows := answers(a, b)
	for i, l := range got {
		for j := range l[:cap(l)] {
			l[:cap(l)][j] = api.Place{Row: -1 - i, At: -1}
		}
	}
	for i, l := range gotRows {
		for j := range l[:cap(l)] {
			l[:cap(l)][j] = -1 - i
		}
	}
	again, againRows := answers(a, b)
	for i := range want {
		holds(t, "a list asked again", again[i], want[i])
		for _, p := range got[i] {
			if p.Row != -1-i {
				t.Errorf("answer %d shares memory with another one: %v", i, got[i])
			}
		}
	}
	for i := range wantRows {
		if !slices.Equal(againRows[i], wantRows[i]) {
			t.Errorf("rows asked again = %v, want %v", againRows[i], wantRows[i])
		}
		for _, row := range gotRows[i] {
			if row != -1-i {
				t.Errorf("rows %d share memory with others: %v", i, gotRows[i])
			}
		}
	}
	if !slices.Equal(a, wasA) || !slices.Equal(b, wasB) {
		t.Errorf("lists that were handed in are %v, %v, were %v, %v", a, b, wasA, wasB)
	}
	const s = "\x03\x00\x02\x05\x01"
	first, _ := Read(s)
	second, _ := Read(s)
	first[0] = api.Place{Row: 7}
	_ = append(first[:1], api.Place{Row: 8})
	third, _ := Read(s)
	holds(t, "Read", second, list(1, 0, 1, 1, 3, 1))
	holds(t, "Read again", third, list(1, 0, 1, 1, 3, 1))
}
