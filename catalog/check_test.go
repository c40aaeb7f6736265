package catalog

import (
	"errors"
	"fmt"
	"strings"
	"testing"

	"concordance/api"
	"concordance/plain"
)

// number and text are columns of these kinds.
func number(name string) api.Column { return api.Column{Name: name, Kind: api.Int} }
func text(name string) api.Column   { return api.Column{Name: name, Kind: api.Text} }

// table is one of these columns.
func table(name string, l ...api.Column) api.Table {
	return api.Table{Name: name, Columns: l}
}

// so are that many letters.
func so(many int) string { return strings.Repeat("n", many) }

// numbers are so many columns.
func numbers(many int) (l []api.Column) {
	for i := range many {
		l = append(l, number(fmt.Sprint("c", i)))
	}
	return l
}

// wrongNames may not be: of no byte, of too many, and with a nought at each place.
func wrongNames() []string {
	l := []string{"", "\x00", so(api.MaxName + 1), so(1 << 20)}
	for i := range api.MaxName {
		b := []byte(so(api.MaxName))
		b[i] = 0
		l = append(l, string(b), string(b[:i+1]))
	}
	return l
}

// rightNames may be.
func rightNames() []string {
	return []string{"a", "\x01", "\xff", " ", "t c", "A", "é", "0", "'", "select", so(2), so(api.MaxName - 1), so(api.MaxName), strings.Repeat("\xff", api.MaxName)}
}

// checked fails, unless Check tells just this, at that place (-1: no At).
func checked(t *testing.T, x api.Table, want api.Errno, place int) {
	t.Helper()
	err := Check(x)
	e, at := plain.Place(err)
	if e != want || at != place || want == api.OK && err != nil {
		t.Errorf("Check(%.200q) = %v at %d, want %v at %d", fmt.Sprint(x), e, at, want, place)
	}
	if place < 0 && want != api.OK && err != error(want) {
		t.Errorf("Check(%.200q) = %#v, want %v itself", fmt.Sprint(x), err, want)
	}
}

// TestCheckRight: 12.1: of each kind, with Must and without, and Words of a Text.
func TestCheckRight(t *testing.T) {
	for _, must := range []bool{false, true} {
		checked(t, table("t", api.Column{Name: "a", Kind: api.Int, Must: must}), api.OK, -1)
		checked(t, table("t", api.Column{Name: "a", Kind: api.Text, Must: must}), api.OK, -1)
		checked(t, table("t", api.Column{Name: "a", Kind: api.Text, Must: must, Words: true}), api.OK, -1)
	}
	// A column may have the table's name; letters are told apart, be they great or small.
	checked(t, table("t", number("t"), number("T"), number("t ")), api.OK, -1)
}

// TestCheckTableName: 12.1: names of 1 to MaxName bytes, none of them 0; else ErrLimit, without a place, whatever else is wrong.
func TestCheckTableName(t *testing.T) {
	for _, s := range rightNames() {
		checked(t, table(s, number("a")), api.OK, -1)
	}
	for _, s := range wrongNames() {
		checked(t, table(s, number("a")), api.ErrLimit, -1)
		checked(t, table(s), api.ErrLimit, -1)
		checked(t, table(s, number("")), api.ErrLimit, -1)
		checked(t, table(s, api.Column{Name: "a"}), api.ErrLimit, -1)
		checked(t, table(s, number("a"), number("a")), api.ErrLimit, -1)
	}
}

// TestCheckHowMany: 12.1: 1 to 6 columns; else ErrLimit, without a place, ahead of what is wrong with them.
func TestCheckHowMany(t *testing.T) {
	for n := 1; n <= 6; n++ {
		checked(t, table("t", numbers(n)...), api.OK, -1)
	}
	for _, n := range []int{0, 7, 8, 60, 256, 257, 100000} {
		checked(t, table("t", numbers(n)...), api.ErrLimit, -1)
	}
	checked(t, api.Table{Name: "t", Columns: []api.Column{}}, api.ErrLimit, -1)
	for _, bad := range []api.Column{{}, number(""), {Name: "a"}, number("c0")} {
		checked(t, table("t", append(numbers(6), bad)...), api.ErrLimit, -1)
		checked(t, table("t", append([]api.Column{bad}, numbers(6)...)...), api.ErrLimit, -1)
	}
}

// TestCheckColumnName: 12.1: as a table's, but an At, at each place.
func TestCheckColumnName(t *testing.T) {
	for _, s := range rightNames() {
		checked(t, table("t", number(s)), api.OK, -1)
	}
	for _, s := range wrongNames() {
		for i := range 6 {
			l := numbers(6)
			l[i].Name = s
			checked(t, table("t", l...), api.ErrLimit, i)
		}
	}
}

// TestCheckKind: 12.1: Int and Text alone, and Words of Text alone: else ErrArg, an At.
func TestCheckKind(t *testing.T) {
	for _, words := range []bool{false, true} {
		for _, kind := range []int{api.Null, 3, 4, -1, -2, 257, 258, 1 << 40, 1<<40 + 1, -1 << 63} {
			for i := range 3 {
				l := numbers(3)
				l[i] = api.Column{Name: "a", Kind: kind, Words: words, Must: i == 1}
				checked(t, table("t", l...), api.ErrArg, i)
			}
		}
	}
	for i := range 6 {
		l := numbers(6)
		l[i].Words = true
		checked(t, table("t", l...), api.ErrArg, i)
		l[i].Kind = api.Text
		checked(t, table("t", l...), api.OK, -1)
	}
}

// TestCheckTwice: 12.1: two columns of one name, at the second one, whatever they are else.
func TestCheckTwice(t *testing.T) {
	for j := range 6 {
		for i := range j {
			for _, c := range []api.Column{number("a"), text("a"), {Name: "a", Kind: api.Text, Words: true, Must: true}} {
				l := numbers(6)
				l[i].Name, l[j] = "a", c
				checked(t, table("t", l...), api.ErrTwice, j)
			}
		}
	}
	checked(t, table("t", number("a"), number("b"), number("b"), number("a")), api.ErrTwice, 2)
	checked(t, table("t", number("a"), number("a"), number("a")), api.ErrTwice, 1)
}

// TestCheckIndexes: 12.1: nothing is asked of Indexes.
func TestCheckIndexes(t *testing.T) {
	for _, l := range [][]string{nil, {}, {"a"}, {"a", "a"}, {"none"}, {""}, {so(100)}, {"\x00"}, make([]string, 1000)} {
		checked(t, api.Table{Name: "t", Columns: numbers(1), Indexes: l}, api.OK, -1)
	}
}

// TestCheckWhich: 12.1, P3: of several errors the first column's, and of one column ErrLimit, then ErrArg, then ErrTwice: each table of up to three columns, each of which may be wrong in any ways.
func TestCheckWhich(t *testing.T) {
	var one []api.Column
	for _, name := range []string{"a", "b", "", so(17)} {
		for _, kind := range []int{0, api.Int, api.Text, 3} {
			for _, words := range []bool{false, true} {
				one = append(one, api.Column{Name: name, Kind: kind, Words: words})
			}
		}
	}
	for _, a := range one {
		for _, b := range one {
			for _, c := range one {
				l := []api.Column{a, b, c}
				e, place := firstWrong(l)
				checked(t, table("t", l...), e, place)
			}
		}
	}
}

// firstWrong is what the document says of columns: all that is wrong, of which the first is told.
func firstWrong(l []api.Column) (api.Errno, int) {
	for i, c := range l {
		limit := len(c.Name) == 0 || len(c.Name) > 16 || strings.IndexByte(c.Name, 0) >= 0
		arg := !(c.Kind == 1 && !c.Words || c.Kind == 2)
		twice := false
		for j := range i {
			twice = twice || l[j].Name == c.Name
		}
		if limit {
			return api.ErrLimit, i
		}
		if arg {
			return api.ErrArg, i
		}
		if twice {
			return api.ErrTwice, i
		}
	}
	return api.OK, -1
}

// TestCheckAt: P3: the At that errors.As finds has the Errno, and so has the error.
func TestCheckAt(t *testing.T) {
	err := Check(table("t", number("a"), number("a")))
	var at *api.At
	if !errors.As(err, &at) || at.Err != api.ErrTwice || at.Place != 1 || !errors.Is(err, api.ErrTwice) {
		t.Errorf("Check = %#v", err)
	}
}
