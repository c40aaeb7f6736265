package catalog

import (
	"fmt"
	"math"
	"reflect"
	"slices"
	"strings"
	"testing"
	"unsafe"

	"concordance/api"
	"concordance/disk"
	"concordance/pager"
	"concordance/plain"
	"concordance/tree"
)

// opened is a pager of a disk that has power.
func opened(t *testing.T, d *disk.Disk) *pager.Pager {
	t.Helper()
	p, err := pager.Open(d)
	if err != nil || p == nil {
		t.Fatalf("Open: %v, %v", p, err)
	}
	return p
}

// over is a catalog over the tree at root 0 of a pager.
func over(t *testing.T, p *pager.Pager) *Catalog {
	t.Helper()
	r, err := tree.At(p, 0)
	if err != nil {
		t.Fatalf("At: %v", err)
	}
	c, err := Over(r)
	if err != nil || c == nil {
		t.Fatalf("Over: %v, %v", c, err)
	}
	return c
}

// empty is a catalog over an empty tree.
func empty(t *testing.T) *Catalog {
	t.Helper()
	return over(t, opened(t, &disk.Disk{}))
}

// told fails, unless an error is this one, as it is.
func told(t *testing.T, what string, err, want error) {
	t.Helper()
	if err != want {
		t.Errorf("%s: %v, want %v", what, err, want)
	}
}

// create makes tables of one column each.
func create(t *testing.T, c *Catalog, names ...string) {
	t.Helper()
	for _, s := range names {
		told(t, fmt.Sprintf("Create %q", s), c.Create(table(s, number("a"))), nil)
	}
}

// drop takes tables out.
func drop(t *testing.T, c *Catalog, names ...string) {
	t.Helper()
	for _, s := range names {
		told(t, fmt.Sprintf("Drop %q", s), c.Drop(s), nil)
	}
}

// named fails, unless just these tables are there, in this order.
func named(t *testing.T, c *Catalog, want ...string) {
	t.Helper()
	if l, err := c.Names(); err != nil || !slices.Equal(l, want) {
		t.Errorf("Names() = %q, %v, want %q", l, err, want)
	}
}

// same says whether two entries say the same: an empty list may be nil or not.
func same(a, b Entry) bool {
	return a.Id == b.Id && a.Next == b.Next && a.Table.Name == b.Table.Name &&
		slices.Equal(a.Table.Columns, b.Table.Columns) && slices.Equal(a.Table.Indexes, b.Table.Indexes)
}

// has fails, unless a table is just so.
func has(t *testing.T, c *Catalog, want Entry) {
	t.Helper()
	if e, err := c.Get(want.Table.Name); err != nil || !same(e, want) {
		t.Errorf("Get(%q) = %v, %v, want %v", want.Table.Name, e, err, want)
	}
}

// ids fails, unless these tables have these numbers.
func ids(t *testing.T, c *Catalog, want map[string]int) {
	t.Helper()
	for s, id := range want {
		if e, err := c.Get(s); err != nil || e.Id != id {
			t.Errorf("Get(%q) = %v, %v, want the number %d", s, e, err, id)
		}
	}
}

// took fails, unless Took tells this row.
func took(t *testing.T, c *Catalog, name string, want int) {
	t.Helper()
	if row, err := c.Took(name); err != nil || row != want {
		t.Errorf("Took(%q) = %d, %v, want %d", name, row, err, want)
	}
}

// all is all that a catalog tells, and all that lies in its tree.
func all(t *testing.T, c *Catalog) string {
	t.Helper()
	l, err := c.Names()
	told(t, "Names", err, nil)
	s := fmt.Sprintf("%q", l)
	for _, name := range l {
		e, err := c.Get(name)
		told(t, "Get", err, nil)
		s += fmt.Sprintf(" %+v", e)
	}
	pairs, err := c.tree.Walk("", -1)
	told(t, "Walk", err, nil)
	return s + fmt.Sprintf(" %q %d", pairs, c.tree.Sum())
}

// missing fails, unless of a name Get, Took, Index and Drop tell this error, and nothing else.
func missing(t *testing.T, c *Catalog, name string, want error) {
	t.Helper()
	if e, err := c.Get(name); !reflect.DeepEqual(e, Entry{}) || err != want {
		t.Errorf("Get(%.40q) = %v, %v, want %v", name, e, err, want)
	}
	if row, err := c.Took(name); row != 0 || err != want {
		t.Errorf("Took(%.40q) = %d, %v, want %v", name, row, err, want)
	}
	for _, s := range []string{"a", "none", "", "\x00"} {
		told(t, fmt.Sprintf("Index(%.40q, %q)", name, s), c.Index(name, s), want)
	}
	told(t, fmt.Sprintf("Drop(%.40q)", name), c.Drop(name), want)
}

// great is a table of six columns of all kinds, with the longest names, and indexes by all of them.
func great(name string) api.Table {
	x := api.Table{Name: name}
	for i := range 6 {
		c := api.Column{Name: fmt.Sprintf("c%015d", i), Kind: api.Int + i%2, Must: i%3 == 0, Words: i%4 == 1}
		x.Columns = append(x.Columns, c)
		x.Indexes = append(x.Indexes, c.Name)
	}
	return x
}

// TestOverMissing: 12.2, P2: without a tree ErrMissing, and no catalog.
func TestOverMissing(t *testing.T) {
	if c, err := Over(nil); c != nil || err != api.ErrMissing {
		t.Errorf("Over(nil) = %v, %v", c, err)
	}
}

// TestEmpty: 12.2: over an empty tree there are no tables; nothing is put there ahead of the first one.
func TestEmpty(t *testing.T) {
	c := empty(t)
	named(t, c)
	for _, s := range append(wrongNames(), rightNames()...) {
		missing(t, c, s, api.ErrMissing)
	}
	if sum := c.tree.Sum(); sum != 0 {
		t.Errorf("%d bytes lie there", sum)
	}
}

// TestCreate: 12.2: a table is there as it was told, with its number, and its next row 1.
func TestCreate(t *testing.T) {
	c := empty(t)
	x := table("fox", api.Column{Name: "a", Kind: api.Int, Must: true}, api.Column{Name: "b", Kind: api.Text, Words: true}, text("c"))
	told(t, "Create", c.Create(x), nil)
	has(t, c, Entry{1, 1, x})
	y := table("dog", api.Column{Name: "b", Kind: api.Text, Must: true, Words: true})
	told(t, "Create", c.Create(y), nil)
	has(t, c, Entry{1, 1, x})
	has(t, c, Entry{2, 1, y})
	named(t, c, "dog", "fox")
	for _, s := range []string{"fo", "foxe", "Fox", "d", "", "a", "b"} {
		missing(t, c, s, api.ErrMissing)
	}
}

// TestCreateEachColumn: 12.2: each column that may be, at each place of as many as may be, comes out as it went in.
func TestCreateEachColumn(t *testing.T) {
	var one []api.Column
	for _, must := range []bool{false, true} {
		one = append(one, api.Column{Kind: api.Int, Must: must}, api.Column{Kind: api.Text, Must: must}, api.Column{Kind: api.Text, Must: must, Words: true})
	}
	c := empty(t)
	for n := 1; n <= 6; n++ {
		for turn := range one {
			for set := range 1 << n {
				x := api.Table{Name: "t"}
				for i := range n {
					col := one[(turn+i*(1+set%3))%len(one)]
					// The names do not stand in their order.
					col.Name = fmt.Sprint((i*5+turn)%7, "c")
					x.Columns = append(x.Columns, col)
					if set>>i&1 == 1 {
						x.Indexes = append(x.Indexes, col.Name)
					}
				}
				told(t, "Create", c.Create(x), nil)
				has(t, c, Entry{1, 1, x})
				drop(t, c, "t")
			}
		}
	}
}

// TestNamesThatMayBe: 12.2: each name that may be is a table's, and a column's, and told apart from all others.
func TestNamesThatMayBe(t *testing.T) {
	c := empty(t)
	names := rightNames()
	for i, s := range names {
		told(t, "Create", c.Create(table(s, number(names[0]+"x"), text(s))), nil)
		has(t, c, Entry{1 + i, 1, table(s, number(names[0]+"x"), text(s))})
	}
	want := slices.Clone(names)
	slices.Sort(want)
	named(t, c, want...)
	for i, s := range names {
		for range i {
			c.Took(s)
		}
	}
	for i, s := range names {
		has(t, c, Entry{1 + i, 1 + i, table(s, number(names[0]+"x"), text(s))})
	}
}

// TestCreateWrong: 12.2, P2: Check's errors, with their At, ahead of all others; nothing is changed.
func TestCreateWrong(t *testing.T) {
	c := empty(t)
	create(t, c, "t", "u")
	for i := range 2 {
		want := all(t, c)
		for _, name := range []string{"new", "t", "", so(17), "t\x00"} {
			for _, l := range [][]api.Column{
				nil, numbers(7), {{}}, {number("")}, {number("a"), number(so(17))}, {number("a"), number("b\x00")},
				{{Name: "a"}}, {number("a"), {Name: "b", Kind: 3}}, {number("a"), {Name: "b", Kind: api.Int, Words: true}},
				{number("a"), text("a")}, {number("a"), number("b"), number("a"), number("")},
			} {
				x := table(name, l...)
				e, place := plain.Place(Check(x))
				got, at := plain.Place(c.Create(x))
				if e == api.OK || got != e || at != place {
					t.Errorf("Create(%q) = %v at %d, want %v at %d", fmt.Sprint(x), got, at, e, place)
				}
			}
		}
		if got := all(t, c); got != want {
			t.Fatalf("%s, want %s", got, want)
		}
		// Once more with as many tables as there may be.
		for n := 0; i == 0 && n < 18; n++ {
			create(t, c, fmt.Sprint("n", n))
		}
	}
}

// TestCreateTwice: 12.2, P2: a second table of one name, however it looks; the first one stays as it is.
func TestCreateTwice(t *testing.T) {
	c := empty(t)
	create(t, c, "t", "u")
	took(t, c, "t", 1)
	told(t, "Index", c.Index("t", "a"), nil)
	want := all(t, c)
	for _, x := range []api.Table{table("t", number("a")), table("t", text("b"), number("c")), great("t"), great("u")} {
		told(t, "Create", c.Create(x), api.ErrTwice)
	}
	if got := all(t, c); got != want {
		t.Fatalf("%s, want %s", got, want)
	}
	create(t, c, "T", "t ", "tt")
	has(t, c, Entry{1, 2, api.Table{Name: "t", Columns: []api.Column{number("a")}, Indexes: []string{"a"}}})
}

// TestCreateIndexes: 12.2: of Indexes those that are names of its columns, each once, in the columns' order.
func TestCreateIndexes(t *testing.T) {
	l := []api.Column{number("c"), text("a"), number("b")}
	for _, x := range []struct{ told, want []string }{
		{nil, nil},
		{[]string{}, nil},
		{[]string{"a"}, []string{"a"}},
		{[]string{"a", "b"}, []string{"a", "b"}},
		{[]string{"b", "a"}, []string{"a", "b"}},
		{[]string{"a", "b", "c"}, []string{"c", "a", "b"}},
		{[]string{"b", "b", "c", "b"}, []string{"c", "b"}},
		{[]string{"none"}, nil},
		{[]string{"t", "A", "", "a ", "\x00", "a\x00", so(100), "B"}, nil},
		{[]string{"none", "b", "", "c", "d"}, []string{"c", "b"}},
		{append(make([]string, 5000), "a"), []string{"a"}},
	} {
		c := empty(t)
		told(t, "Create", c.Create(api.Table{Name: "t", Columns: l, Indexes: x.told}), nil)
		has(t, c, Entry{1, 1, api.Table{Name: "t", Columns: l, Indexes: x.want}})
		// What was told is there; what was not can be noted yet.
		for _, col := range l {
			want := error(nil)
			if slices.Contains(x.want, col.Name) {
				want = api.ErrTwice
			}
			told(t, "Index", c.Index("t", col.Name), want)
		}
	}
}

// TestFull: 12.2, P2: twenty tables, and none more: then ErrFull, behind ErrTwice, and nothing is changed; one less, and there is room again.
func TestFull(t *testing.T) {
	c := empty(t)
	for i := range 20 {
		told(t, "Create", c.Create(great(fmt.Sprintf("t%015d", i))), nil)
	}
	want := all(t, c)
	for _, s := range []string{"a", "z", "t", "t000000000000020", "\xff"} {
		told(t, "Create", c.Create(table(s, number("a"))), api.ErrFull)
		told(t, "Create", c.Create(great(s)), api.ErrFull)
	}
	for i := range 20 {
		told(t, "Create", c.Create(table(fmt.Sprintf("t%015d", i), number("a"))), api.ErrTwice)
	}
	if got := all(t, c); got != want {
		t.Fatalf("%s, want %s", got, want)
	}
	for i := range 20 {
		has(t, c, Entry{1 + i, 1, great(fmt.Sprintf("t%015d", i))})
	}
	drop(t, c, "t000000000000007")
	create(t, c, "new")
	ids(t, c, map[string]int{"new": 8, "t000000000000006": 7, "t000000000000008": 9})
	told(t, "Create", c.Create(table("t000000000000007", number("a"))), api.ErrFull)
	told(t, "Create", c.Create(table("new", number("a"))), api.ErrTwice)
}

// TestNumbers: 12.2: a new table's number is the least that none has, whatever was taken out first.
func TestNumbers(t *testing.T) {
	c := empty(t)
	create(t, c, "e", "d", "c", "b", "a")
	ids(t, c, map[string]int{"e": 1, "d": 2, "c": 3, "b": 4, "a": 5})
	drop(t, c, "d", "b")
	ids(t, c, map[string]int{"e": 1, "c": 3, "a": 5})
	create(t, c, "b")
	ids(t, c, map[string]int{"e": 1, "b": 2, "c": 3, "a": 5})
	create(t, c, "f", "g")
	ids(t, c, map[string]int{"e": 1, "b": 2, "c": 3, "f": 4, "a": 5, "g": 6})
	drop(t, c, "g", "e", "a")
	create(t, c, "x", "y", "z", "e")
	ids(t, c, map[string]int{"x": 1, "b": 2, "c": 3, "f": 4, "y": 5, "z": 6, "e": 7})
	drop(t, c, "x", "b", "c", "f", "y", "z")
	create(t, c, "a")
	ids(t, c, map[string]int{"a": 1, "e": 7})
	told(t, "Create", c.Create(table("e", number("a"))), api.ErrTwice)
	create(t, c, "b")
	ids(t, c, map[string]int{"a": 1, "b": 2, "e": 7})
}

// TestDropAndCreateAgain: 12.2: a table that was taken out leaves nothing to one of its name.
func TestDropAndCreateAgain(t *testing.T) {
	c := empty(t)
	create(t, c, "s")
	told(t, "Create", c.Create(great("t")), nil)
	for i := range 9 {
		took(t, c, "t", 1+i)
	}
	drop(t, c, "t")
	missing(t, c, "t", api.ErrMissing)
	named(t, c, "s")
	create(t, c, "t")
	has(t, c, Entry{2, 1, table("t", number("a"))})
	took(t, c, "t", 1)
	drop(t, c, "s")
	has(t, c, Entry{2, 2, table("t", number("a"))})
	told(t, "Drop", c.Drop("s"), api.ErrMissing)
}

// TestTook: 12.2: each row once, from 1 on, as often as it is asked; each table has its own.
func TestTook(t *testing.T) {
	c := empty(t)
	told(t, "Create", c.Create(great("t")), nil)
	create(t, c, "u", "tt")
	for i := range 1000 {
		took(t, c, "t", 1+i)
		if i%3 == 0 {
			took(t, c, "u", 1+i/3)
		}
	}
	has(t, c, Entry{1, 1001, great("t")})
	has(t, c, Entry{2, 335, table("u", number("a"))})
	has(t, c, Entry{3, 1, table("tt", number("a"))})
	want := all(t, c)
	for _, s := range []string{"", "v", "t\x00", "tt ", so(17)} {
		if row, err := c.Took(s); row != 0 || err != api.ErrMissing {
			t.Errorf("Took(%q) = %d, %v", s, row, err)
		}
	}
	if got := all(t, c); got != want {
		t.Fatalf("%s, want %s", got, want)
	}
}

// TestTookFarOn: 12.2: rows far on: what lies in the tree has room for each.
func TestTookFarOn(t *testing.T) {
	c := empty(t)
	create(t, c, "t", "u")
	for _, next := range []int{255, 256, 65535, 1<<24 - 1, 1<<31 - 2, 1<<32 - 1, 1 << 40, 1<<62 - 1, math.MaxInt - 2} {
		told(t, "put", c.put(headPair(Entry{1, next, api.Table{Name: "t"}})), nil)
		sum := c.tree.Sum()
		took(t, c, "t", next)
		took(t, c, "t", next+1)
		has(t, c, Entry{1, next + 2, table("t", number("a"))})
		if c.tree.Sum() != sum {
			t.Errorf("%d: %d bytes, want %d", next, c.tree.Sum(), sum)
		}
	}
	has(t, c, Entry{2, 1, table("u", number("a"))})
}

// TestIndex: 12.2: indexes are told in the order of the columns, whichever is noted first; Next and all other tables stay.
func TestIndex(t *testing.T) {
	l := []api.Column{number("c"), {Name: "a", Kind: api.Text, Words: true, Must: true}, text("b")}
	for _, order := range [][]string{{"a", "b", "c"}, {"b", "a", "c"}, {"c", "b", "a"}, {"b", "c", "a"}} {
		c := empty(t)
		told(t, "Create", c.Create(table("t", l...)), nil)
		told(t, "Create", c.Create(table("u", l...)), nil)
		took(t, c, "t", 1)
		for n := range order {
			told(t, "Index", c.Index("t", order[n]), nil)
			var want []string
			for _, s := range []string{"c", "a", "b"} {
				if slices.Contains(order[:n+1], s) {
					want = append(want, s)
				}
			}
			has(t, c, Entry{1, 2, api.Table{Name: "t", Columns: l, Indexes: want}})
			told(t, "Index", c.Index("t", order[n]), api.ErrTwice)
		}
		has(t, c, Entry{2, 1, table("u", l...)})
	}
}

// TestIndexWrong: 12.2, P2: ErrMissing, ErrName and ErrTwice, and nothing is changed.
func TestIndexWrong(t *testing.T) {
	c := empty(t)
	told(t, "Create", c.Create(api.Table{Name: "t", Columns: numbers(6), Indexes: []string{"c3"}}), nil)
	create(t, c, "u")
	told(t, "Index", c.Index("t", "c0"), nil)
	want := all(t, c)
	for _, s := range append(wrongNames(), "t", "a", "c", "C1", "c6", "c1 ", "c1\x00", "\x01", "\x02") {
		told(t, fmt.Sprintf("Index(%.40q)", s), c.Index("t", s), api.ErrName)
		told(t, fmt.Sprintf("Index(%.40q)", s), c.Index("v", s), api.ErrMissing)
	}
	for _, s := range []string{"c0", "c3"} {
		told(t, "Index", c.Index("t", s), api.ErrTwice)
		told(t, "Index", c.Index("u", s), api.ErrName)
		told(t, "Index", c.Index("", s), api.ErrMissing)
	}
	if got := all(t, c); got != want {
		t.Fatalf("%s, want %s", got, want)
	}
}

// TestNamesInOrder: 12.2: byte by byte, a beginning first, whichever was made first.
func TestNamesInOrder(t *testing.T) {
	want := []string{"\x01", "\x01\x01", " ", "1", "10", "2", "A", "B", "_", "a", "a\x01", "a ", "a1", "aa", "ab", "b", "\x7f", "\x80", "é", "\xff"}
	for step := 1; step < len(want); step += 2 {
		if step%5 == 0 {
			continue
		}
		c := empty(t)
		for i := range want {
			create(t, c, want[i*step%len(want)])
		}
		named(t, c, want...)
		for i := range want {
			s := want[i*step%len(want)]
			drop(t, c, s)
			if l, err := c.Names(); err != nil || len(l) != len(want)-1-i || !slices.IsSorted(l) || slices.Contains(l, s) {
				t.Errorf("Names() = %q, %v without %q", l, err, s)
			}
		}
	}
}

// TestAskedForNoName: 12.2: any text may be asked for: there is none of it, also where its bytes look like what lies in the tree; nothing is changed.
func TestAskedForNoName(t *testing.T) {
	c := empty(t)
	create(t, c, "u")
	told(t, "Create", c.Create(great("t")), nil)
	want := all(t, c)
	pairs, err := c.tree.Walk("", -1)
	told(t, "Walk", err, nil)
	names := append(wrongNames(), "t\x00\x00", "t\x00\x01", "t\x00\x02\x00", "t\x00\x06", "t\x00\x07", "t\x00u", "\x00t", "\x00t\x00")
	for _, p := range pairs {
		names = append(names, p.Key, p.Key+"\x00", p.Key[:1]+"\x00"+p.Item, p.Key+p.Item)
	}
	for _, s := range names {
		missing(t, c, s, api.ErrMissing)
	}
	if got := all(t, c); got != want {
		t.Fatalf("%s, want %s", got, want)
	}
}

// TestColumn: 12.2: where a column stands, from 0 on; -1: none.
func TestColumn(t *testing.T) {
	c := empty(t)
	told(t, "Create", c.Create(great("t")), nil)
	e, err := c.Get("t")
	told(t, "Get", err, nil)
	for i, col := range great("t").Columns {
		if got := e.Column(col.Name); got != i {
			t.Errorf("Column(%q) = %d, want %d", col.Name, got, i)
		}
	}
	for _, s := range []string{"", "t", "c", "C000000000000000", "c00000000000000", "c000000000000006", "c0000000000000001", "\x00"} {
		if got := e.Column(s); got != -1 {
			t.Errorf("Column(%q) = %d", s, got)
		}
		if got := (Entry{}).Column(s); got != -1 {
			t.Errorf("Column(%q) of no table = %d", s, got)
		}
	}
}

// TestWords: 12.2, P5: t, the Id, c, the column, in decimal digits, whatever they are.
func TestWords(t *testing.T) {
	for _, x := range []struct {
		id, column int
		want       string
	}{
		{1, 0, "t1c0"}, {1, 5, "t1c5"}, {20, 3, "t20c3"}, {7, 10, "t7c10"}, {0, 0, "t0c0"}, {-3, -1, "t-3c-1"},
		{math.MaxInt64, math.MinInt64, "t9223372036854775807c-9223372036854775808"},
	} {
		if got := (Entry{Id: x.id}).Words(x.column); got != x.want {
			t.Errorf("Words = %q, want %q", got, x.want)
		}
	}
	c := empty(t)
	seen := map[string]bool{}
	for i := range 20 {
		s := fmt.Sprint("n", i)
		told(t, "Create", c.Create(great(s)), nil)
		e, err := c.Get(s)
		told(t, "Get", err, nil)
		for k := range 6 {
			w := e.Words(k)
			if seen[w] || w != fmt.Sprintf("t%dc%d", i+1, k) || len(w) > api.MaxName {
				t.Errorf("Words(%d) of %q = %q", k, s, w)
			}
			seen[w] = true
		}
	}
}

// TestAllTakenOut: 12.2: when all are taken out, none are left: neither tables nor bytes nor pages; and all begins anew.
func TestAllTakenOut(t *testing.T) {
	p := opened(t, &disk.Disk{})
	c := over(t, p)
	for turn := range 4 {
		for i := range 20 {
			told(t, "Create", c.Create(great(fmt.Sprintf("t%015d", i))), nil)
		}
		l, err := c.Names()
		told(t, "Names", err, nil)
		for i := range l {
			drop(t, c, l[i*[]int{1, 19, 7, 13}[turn]%20])
		}
		named(t, c)
		if pages, deep, err := c.tree.Shape(); c.tree.Sum() != 0 || pages != 0 || deep != 0 || err != nil || p.Used() != 1 {
			t.Errorf("%d bytes, %d pages, %d in use, %v", c.tree.Sum(), pages, p.Used(), err)
		}
		missing(t, c, "t000000000000000", api.ErrMissing)
	}
	create(t, c, "new")
	has(t, c, Entry{1, 1, table("new", number("a"))})
}

// TestSecondCatalog: P1: two catalogs over one tree, and over two trees of one root, are one.
func TestSecondCatalog(t *testing.T) {
	p := opened(t, &disk.Disk{})
	a, b := over(t, p), over(t, p)
	c, err := Over(a.tree)
	told(t, "Over", err, nil)
	create(t, a, "t")
	told(t, "Create", b.Create(great("u")), nil)
	told(t, "Index", c.Index("t", "a"), nil)
	took(t, a, "t", 1)
	took(t, b, "t", 2)
	took(t, c, "t", 3)
	told(t, "Create", c.Create(table("t", number("a"))), api.ErrTwice)
	for _, x := range []*Catalog{a, b, c} {
		named(t, x, "t", "u")
		has(t, x, Entry{1, 4, api.Table{Name: "t", Columns: numbersOf("a"), Indexes: []string{"a"}}})
		has(t, x, Entry{2, 1, great("u")})
	}
	drop(t, c, "t")
	missing(t, a, "t", api.ErrMissing)
	missing(t, b, "t", api.ErrMissing)
	// A tree at another root has its own.
	r, err := tree.At(p, 5)
	told(t, "At", err, nil)
	other, err := Over(r)
	told(t, "Over", err, nil)
	named(t, other)
	create(t, other, "v")
	ids(t, other, map[string]int{"v": 1})
	named(t, a, "u")
}

// numbersOf are columns of these names.
func numbersOf(names ...string) (l []api.Column) {
	for _, s := range names {
		l = append(l, number(s))
	}
	return l
}

// TestAsThePagerIs: P1: what the pager takes back is taken back; what it commits is there for one that is opened anew.
func TestAsThePagerIs(t *testing.T) {
	d := &disk.Disk{}
	p := opened(t, d)
	c := over(t, p)
	told(t, "Create", c.Create(great("t")), nil)
	create(t, c, "u")
	took(t, c, "t", 1)
	told(t, "Commit", p.Commit(), nil)
	took(t, c, "t", 2)
	m := p.Mark()
	took(t, c, "t", 3)
	told(t, "Index", c.Index("u", "a"), nil)
	drop(t, c, "t")
	create(t, c, "v")
	ids(t, c, map[string]int{"v": 1})
	told(t, "Back", p.Back(m), nil)
	named(t, c, "t", "u")
	has(t, c, Entry{1, 3, great("t")})
	has(t, c, Entry{2, 1, table("u", number("a"))})
	told(t, "Rollback", p.Rollback(), nil)
	has(t, c, Entry{1, 2, great("t")})
	told(t, "Index", c.Index("u", "a"), nil)
	took(t, c, "u", 1)
	told(t, "Commit", p.Commit(), nil)
	drop(t, c, "u")
	a := over(t, opened(t, d))
	named(t, a, "t", "u")
	has(t, a, Entry{1, 2, great("t")})
	has(t, a, Entry{2, 2, api.Table{Name: "u", Columns: numbersOf("a"), Indexes: []string{"a"}}})
	told(t, "Create", a.Create(table("t", number("a"))), api.ErrTwice)
	told(t, "Index", a.Index("u", "a"), api.ErrTwice)
	took(t, a, "t", 2)
	create(t, a, "v")
	ids(t, a, map[string]int{"v": 3})
}

// TestDown: 12.2, P2, P3: if the pager is Down, all tell ErrState, also of what is not there; behind what Check tells.
func TestDown(t *testing.T) {
	for _, tables := range []int{0, 1, 3, 20} {
		d := &disk.Disk{}
		p := opened(t, d)
		c := over(t, p)
		for i := range tables {
			create(t, c, fmt.Sprint("t", i))
		}
		e, _ := c.Get("t0")
		d.Cut(0, 0)
		told(t, "Commit", p.Commit(), api.ErrDevice)
		for _, s := range append(wrongNames(), "t0", "t1", "none") {
			missing(t, c, s, api.ErrState)
			// A catalog can be laid over it yet, as a tree can be, but tells no more.
			missing(t, over(t, p), s, api.ErrState)
		}
		if l, err := c.Names(); len(l) != 0 || err != api.ErrState {
			t.Errorf("Names() = %q, %v", l, err)
		}
		for _, s := range []string{"t0", "t1", "none"} {
			told(t, "Create", c.Create(table(s, number("a"))), api.ErrState)
			told(t, "Create", c.Create(table(s)), api.ErrLimit)
			if got, at := plain.Place(c.Create(table(s, number("a"), text("a")))); got != api.ErrTwice || at != 1 {
				t.Errorf("Create = %v at %d", got, at)
			}
		}
		for _, s := range wrongNames() {
			told(t, "Create", c.Create(table(s, number("a"))), api.ErrLimit)
		}
		// What asks nothing of the tree is told as ever.
		if tables > 0 && (e.Column("a") != 0 || e.Words(0) != "t1c0") {
			t.Errorf("Column, Words: %d, %q", e.Column("a"), e.Words(0))
		}
		// The power is back, but this pager stays Down; one that is opened anew has nothing, as nothing was committed.
		d.Cut(-1, 0)
		missing(t, c, "t0", api.ErrState)
		named(t, over(t, opened(t, d)))
	}
}

// TestNoPageLeft: P2: if the pager has no page left, a Create that needs one tells ErrFull, and nothing of it is there; Took, Index and Drop never need one.
func TestNoPageLeft(t *testing.T) {
	refused := 0
	for spare := range 5 {
		p := opened(t, &disk.Disk{})
		c := over(t, p)
		for p.Used() < api.MaxPages-spare {
			_, err := p.Alloc()
			told(t, "Alloc", err, nil)
		}
		for n := range 20 {
			x := great(fmt.Sprintf("t%d", n*7%20))
			x.Indexes = nil
			want := all(t, c)
			err := c.Create(x)
			if err == nil {
				continue
			}
			refused++
			told(t, "Create", err, api.ErrFull)
			if got := all(t, c); got != want {
				t.Fatalf("%d spare: %s, want %s", spare, got, want)
			}
			missing(t, c, x.Name, api.ErrMissing)
		}
		l, err := c.Names()
		told(t, "Names", err, nil)
		for _, s := range l {
			for i := range 300 {
				took(t, c, s, 1+i)
			}
			for _, col := range great(s).Columns {
				told(t, "Index", c.Index(s, col.Name), nil)
			}
		}
		drop(t, c, l...)
		named(t, c)
	}
	if refused < 20 {
		t.Errorf("only %d were refused", refused)
	}
}

// TestRoomForAll: 12.2: a tree has room for twenty tables of six columns with the longest names, with indexes by all.
func TestRoomForAll(t *testing.T) {
	c := empty(t)
	for i := range 20 {
		x := great(fmt.Sprintf("t%015d", i))
		l := x.Indexes
		x.Indexes = nil
		told(t, "Create", c.Create(x), nil)
		for _, s := range l {
			told(t, "Index", c.Index(x.Name, s), nil)
		}
	}
	for i := range 20 {
		has(t, c, Entry{1 + i, 1, great(fmt.Sprintf("t%015d", i))})
	}
}

// scrawl writes over a text's memory. (A text of one byte lies where nobody may write: here all have more.)
func scrawl(s string) {
	for i := range len(s) {
		unsafe.Slice(unsafe.StringData(s), len(s))[i] = '!'
	}
}

// own is a text in memory of its own, which may be written into.
func own(s string) string { return string([]byte(s)) }

// ownTable is a table none of whose memory is anybody else's.
func ownTable(x api.Table) api.Table {
	y := api.Table{Name: own(x.Name)}
	for _, c := range x.Columns {
		c.Name = own(c.Name)
		y.Columns = append(y.Columns, c)
	}
	for _, s := range x.Indexes {
		y.Indexes = append(y.Indexes, own(s))
	}
	return y
}

// scrawlTable writes over all that a table has.
func scrawlTable(x api.Table) {
	scrawl(x.Name)
	for i := range x.Columns {
		scrawl(x.Columns[i].Name)
	}
	for _, s := range x.Indexes {
		scrawl(s)
	}
	clear(x.Columns[:cap(x.Columns)])
	clear(x.Indexes[:cap(x.Indexes)])
}

// TestNothingIsKept: P4: no memory of what is handed in is kept.
func TestNothingIsKept(t *testing.T) {
	c := empty(t)
	x := ownTable(great("name"))
	told(t, "Create", c.Create(x), nil)
	scrawlTable(x)
	has(t, c, Entry{1, 1, great("name")})
	told(t, "Create", c.Create(table("other", number("column"))), nil)
	name, column := own("other"), own("column")
	told(t, "Index", c.Index(name, column), nil)
	took(t, c, name, 1)
	e, err := c.Get(name)
	told(t, "Get", err, nil)
	scrawl(name)
	scrawl(column)
	want := Entry{2, 2, api.Table{Name: "other", Columns: numbersOf("column"), Indexes: []string{"column"}}}
	has(t, c, want)
	if !same(e, want) {
		t.Errorf("an answer shares memory with what was asked: %v", e)
	}
	named(t, c, "name", "other")
}

// TestNothingIsWritten: P4: what is handed in stays as it is, also what stands behind a list's length, be it an error or none.
func TestNothingIsWritten(t *testing.T) {
	c := empty(t)
	wide := func(x api.Table) api.Table {
		x.Columns = append(slices.Clone(x.Columns), number("behind"))[:len(x.Columns)]
		x.Indexes = append(append([]string{"none", "none"}, x.Indexes...), "behind")[:len(x.Indexes)+2]
		slices.Reverse(x.Indexes)
		return x
	}
	for _, x := range []api.Table{great("t"), great("t"), table("u", number("a")), table("", number("a")), table("v", number("a"), number("a"))} {
		x, want := wide(x), wide(x)
		Check(x)
		c.Create(x)
		if !slices.Equal(x.Columns[:len(x.Columns)+1], want.Columns[:len(want.Columns)+1]) || !slices.Equal(x.Indexes[:len(x.Indexes)+1], want.Indexes[:len(want.Indexes)+1]) {
			t.Errorf("%v, want %v", x, want)
		}
		e := Entry{Id: 1, Table: x}
		e.Column("none")
		e.Words(0)
		if !slices.Equal(x.Columns[:len(x.Columns)+1], want.Columns[:len(want.Columns)+1]) {
			t.Errorf("%v, want %v", x, want)
		}
	}
}

// TestAnswersAreFresh: P4: what comes out is the caller's own memory: it may be written into.
func TestAnswersAreFresh(t *testing.T) {
	c := empty(t)
	told(t, "Create", c.Create(great("name")), nil)
	create(t, c, "other")
	a, _ := c.Get("name")
	b, _ := c.Get("name")
	l, _ := c.Names()
	m, _ := c.Names()
	scrawlTable(a.Table)
	for _, s := range l {
		scrawl(s)
	}
	clear(l[:cap(l)])
	if !same(b, Entry{1, 1, great("name")}) || !slices.Equal(m, []string{"name", "other"}) {
		t.Errorf("two answers share memory: %v, %q", b, m)
	}
	has(t, c, Entry{1, 1, great("name")})
	named(t, c, "name", "other")
	// Of one answer no two lists do.
	for _, s := range b.Table.Indexes {
		scrawl(s)
	}
	if !slices.Equal(b.Table.Columns, great("name").Columns) {
		t.Errorf("two lists of an answer share memory: %v", b)
	}
}

// TestStrangeTree: P1: no call panics, and each ends, whatever the tree has.
func TestStrangeTree(t *testing.T) {
	for _, pair := range []tree.Pair{
		{Key: "t"}, {Key: "\x00"}, {Key: "t\x00"}, {Key: "t\x00\x01"}, {Key: "t\x00\x01", Item: "\x01\x00\x00\x00"}, {Key: "t\x00\x01", Item: "\x01\x00\x00\x00a"},
		{Key: "t\x00", Item: so(8)}, {Key: "t\x00", Item: so(9)}, {Key: "t\x00", Item: so(10)}, {Key: "t", Item: so(9)}, {Key: "t\x00\x00", Item: so(9)},
		{Key: "t\x00\xff", Item: so(100)}, {Key: "s\x00\x01", Item: so(9)},
		{Key: strings.Repeat("\x00", api.MaxKey), Item: strings.Repeat("\x00", api.MaxItem)},
		{Key: strings.Repeat("\xff", api.MaxKey), Item: strings.Repeat("\xff", api.MaxItem)},
	} {
		for _, made := range []int{0, 1, 2} {
			c := empty(t)
			create(t, c, []string{"s", "t"}[:made]...)
			told(t, "Put", c.tree.Put(pair.Key, pair.Item), nil)
			c.Names()
			for _, s := range []string{"t", "s", "", "u"} {
				e, _ := c.Get(s)
				e.Column("a")
				c.Index(s, "a")
				c.Took(s)
				c.Create(great(s))
				c.Drop(s)
			}
		}
	}
}
