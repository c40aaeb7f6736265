package store

import (
	"fmt"
	"math"
	"slices"
	"strings"
	"testing"

	"concordance/api"
	"concordance/catalog"
	"concordance/finder"
)

// pair is a table of a number that must be there, and a text whose words are looked for.
func pair(name string) api.Table { return table(name, must(numbers("a")), worded("b")) }

// TestOverMissing: 13.1, P2: without a pager ErrMissing, and no store.
func TestOverMissing(t *testing.T) {
	if s, err := Over(nil); s != nil || err != api.ErrMissing {
		t.Errorf("Over(nil) = %v, %v", s, err)
	}
}

// TestOverTrees: 13.1: tables lie in tree 0, rows in 1, indexes in 2, words in 3; nothing in any other.
func TestOverTrees(t *testing.T) {
	h := built(t)
	for root := range api.Roots {
		if page, note, err := h.pager.Root(root); page != 0 || note != 0 || err != nil {
			t.Errorf("Root(%d) = %d, %d, %v", root, page, note, err)
		}
	}
	// Of each step which trees are no longer empty.
	filled := func(want ...bool) {
		t.Helper()
		for root := range api.Roots {
			is := root < len(want) && want[root]
			if sum := h.tree(root).Sum(); (sum > 0) != is {
				t.Errorf("tree %d has %d bytes", root, sum)
			}
		}
	}
	told(t, "Create", h.Catalog.Create(pair("t")), nil)
	filled(true)
	h.insert("t", 1, row(num(1), nothing))
	filled(true, true)
	told(t, "Index", h.Index("t", "a"), nil)
	filled(true, true, true)
	h.insert("t", 2, row(num(1), text("Jumping-foxes!")))
	filled(true, true, true, true)
	c, err := catalog.Over(h.tree(0))
	told(t, "Over", err, nil)
	if e, err := c.Get("t"); err != nil || e.Id != 1 || e.Next != 3 || !slices.Equal(e.Table.Indexes, []string{"a"}) {
		t.Errorf("Get = %v, %v", e, err)
	}
	f, err := finder.Over(h.tree(3))
	told(t, "Over", err, nil)
	for w, at := range map[string]int{"jump": 0, "foxe": 1} {
		for _, x := range []*finder.Finder{f, h.Words} {
			if l, err := x.Places("t1c1", w); err != nil || !slices.Equal(l, []api.Place{{Row: 2, At: at}}) {
				t.Errorf("Places(%q) = %v, %v", w, l, err)
			}
		}
	}
	h.whole()
}

// TestRows: 13.2: rows are there as they were told, by their numbers, each table's its own.
func TestRows(t *testing.T) {
	h := built(t, pair("t"), table("u", texts("a")))
	h.has("t")
	h.insert("t", 1, row(num(3), text("a cat")), row(num(-1), nothing), row(num(3), text("")))
	h.insert("u", 1, row(text("a cat")), row(nothing))
	h.has("t", Row{1, row(num(3), text("a cat"))}, Row{2, row(num(-1), nothing)}, Row{3, row(num(3), text(""))})
	h.has("u", Row{1, row(text("a cat"))}, Row{2, row(nothing)})
	h.whole()
	told(t, "Delete", h.Delete("t", 2), nil)
	told(t, "Update", h.Update("t", 1, row(num(4), text("two cats"))), nil)
	h.has("t", Row{1, row(num(4), text("two cats"))}, Row{3, row(num(3), text(""))})
	h.has("u", Row{1, row(text("a cat"))}, Row{2, row(nothing)})
	h.whole()
}

// TestEachValue: 13.2: each value that may be comes out as it went in, at each place, with and without an index.
func TestEachValue(t *testing.T) {
	values := []api.Value{nothing, num(0), num(1), num(-1), num(math.MaxInt64), num(math.MinInt64), num(255), num(256), text(""), text("a"), text("a b"), text(so(40)), text("\x01\xff\x80"), text(strings.Repeat("\xff", 40)), text("it's; \"*\" OR é")}
	for _, with := range []bool{false, true} {
		var l []api.Table
		for kind := range 4 {
			x := table(fmt.Sprint("t", kind), api.Column{Name: "a", Kind: 1 + kind%2, Words: kind == 3}, api.Column{Name: "b", Kind: 1 + kind/2})
			if with {
				x = indexed(x)
			}
			l = append(l, x)
		}
		h := built(t, l...)
		for _, x := range l {
			var want []Row
			for _, a := range values {
				for _, b := range values {
					if a.Kind != api.Null && a.Kind != x.Columns[0].Kind || b.Kind != api.Null && b.Kind != x.Columns[1].Kind {
						continue
					}
					h.insert(x.Name, len(want)+1, row(a, b))
					want = append(want, Row{len(want) + 1, row(a, b)})
				}
			}
			h.has(x.Name, want...)
		}
		h.whole()
	}
}

// wrongNames are texts that no table has.
func wrongNames() []string {
	return []string{"", "u", "T", "tt", "t ", "\x00", "t\x00", "t\x00\x01", so(16), so(17), so(5000), "\xff"}
}

// TestNoTable: 13.1, P2, P3: ErrMissing in each call, also if more is wrong; nothing is changed.
func TestNoTable(t *testing.T) {
	h := built(t, indexed(pair("t")))
	h.insert("t", 1, row(num(1), text("a")))
	want := h.all()
	for _, s := range wrongNames() {
		h.refused(s, api.ErrMissing)
	}
	h.unchanged(want)
}

// refused fails, unless of a table's name each call tells this error, and nothing else.
func (h *house) refused(name string, want error) {
	h.t.Helper()
	for _, l := range [][]api.Value{row(num(1), text("a")), row(text("a"), num(1)), row(nothing, nothing), nil, {{Kind: 7}, {}}} {
		if n, err := h.Insert(name, l); n != 0 || err != want {
			h.t.Errorf("Insert(%.40q, %v) = %d, %v, want %v", name, l, n, err, want)
		}
		told(h.t, "Update", h.Update(name, 1, l), want)
		told(h.t, "Update", h.Update(name, 7, l), want)
	}
	for _, n := range []int{1, 2, 0, -1, math.MaxInt, math.MinInt} {
		if r, err := h.Get(name, n); r.Id != 0 || r.Values != nil || err != want {
			h.t.Errorf("Get(%.40q, %d) = %v, %v, want %v", name, n, r, err, want)
		}
		told(h.t, "Delete", h.Delete(name, n), want)
	}
	if l, err := h.Scan(name); l != nil || err != want {
		h.t.Errorf("Scan(%.40q) = %v, %v, want %v", name, l, err, want)
	}
	v := num(1)
	for _, column := range []string{"a", "b", "c", ""} {
		for _, low := range []*api.Value{nil, &v} {
			if l, err := h.Range(name, column, low, nil); l != nil || err != want {
				h.t.Errorf("Range(%.40q, %q) = %v, %v, want %v", name, column, l, err, want)
			}
		}
		told(h.t, "Index", h.Index(name, column), want)
	}
	told(h.t, "Drop", h.Drop(name), want)
}

// TestNoRow: 13.2, P2, P3: ErrMissing of Get, Delete and Update, ahead of what is WRONG; nothing is changed.
func TestNoRow(t *testing.T) {
	h := built(t, indexed(pair("t")), pair("u"))
	h.insert("t", 1, row(num(1), text("a")), row(num(2), text("b")), row(num(3), text("c")))
	h.insert("u", 1, row(num(1), nothing), row(num(2), nothing), row(num(3), nothing), row(num(4), nothing))
	told(t, "Delete", h.Delete("t", 2), nil)
	want := h.all()
	for _, n := range []int{0, -1, 2, 4, 5, 257, 1 << 16, 1<<32 + 1, 1<<56 + 1, math.MaxInt, math.MinInt, math.MinInt + 1} {
		if r, err := h.Get("t", n); r.Id != 0 || r.Values != nil || err != api.ErrMissing {
			t.Errorf("Get(%d) = %v, %v", n, r, err)
		}
		told(t, "Delete", h.Delete("t", n), api.ErrMissing)
		for _, l := range [][]api.Value{row(num(1), text("a")), row(num(1)), nil, row(text("a"), nothing), row(nothing, nothing)} {
			told(t, "Update", h.Update("t", n, l), api.ErrMissing)
		}
	}
	h.unchanged(want)
}

// TestWrong: 13.1, P2, P3: which row is WRONG, which of several errors is told, and at which value; of Insert and of Update; nothing is changed.
func TestWrong(t *testing.T) {
	odd := []api.Value{{Kind: 3}, {Kind: -1}, {Kind: math.MaxInt}, {Num: 1}, {Text: "a"}, {Kind: api.Int, Num: 1, Text: "a"}, {Kind: api.Text, Num: 1}, text(so(41)), text("a\x00"), text("\x00"), text(so(5000))}
	x := table("t", must(numbers("a")), texts("b"), must(worded("c")), numbers("d"))
	h := built(t, indexed(x))
	right := row(num(1), text("b"), text("c"), num(4))
	h.insert("t", 1, right)
	want := h.all()
	wrong := func(e api.Errno, place int, l ...api.Value) {
		t.Helper()
		what := fmt.Sprintf("%.200v", l)
		n, err := h.Insert("t", l)
		placed(t, "Insert "+what, err, e, place)
		if n != 0 {
			t.Errorf("Insert = %d", n)
		}
		placed(t, "Update "+what, h.Update("t", 1, l), e, place)
		h.unchanged(want)
	}
	// As many values as columns: told without a place, ahead of all that is wrong with them.
	for n := range 9 {
		if n == 4 {
			continue
		}
		wrong(api.ErrArg, -1, slices.Repeat(right, 3)[:n]...)
		wrong(api.ErrArg, -1, make([]api.Value, n)...)
		wrong(api.ErrArg, -1, slices.Repeat([]api.Value{odd[0]}, n)...)
		wrong(api.ErrArg, -1, slices.Repeat([]api.Value{text(so(40))}, n)...)
	}
	wrong(api.ErrArg, -1, make([]api.Value, 5000)...)
	for i := range right {
		change := func(v api.Value) []api.Value {
			l := slices.Clone(right)
			l[i] = v
			return l
		}
		for _, v := range odd {
			wrong(api.ErrArg, i, change(v)...)
		}
		// The other kind, also the value that the kind's zero is.
		other := []api.Value{num(0), num(1)}
		if x.Columns[i].Kind == api.Int {
			other = []api.Value{text(""), text("1")}
		}
		for _, v := range other {
			wrong(api.ErrArg, i, change(v)...)
		}
		if x.Columns[i].Must {
			wrong(api.ErrFalse, i, change(nothing)...)
		}
	}
	// Of several the first value's.
	wrong(api.ErrFalse, 0, nothing, num(1), nothing, odd[0])
	wrong(api.ErrFalse, 0, nothing, odd[0], odd[0], odd[0])
	wrong(api.ErrArg, 0, api.Value{Num: 1}, nothing, nothing, nothing)
	wrong(api.ErrArg, 1, num(1), num(1), nothing, nothing)
	wrong(api.ErrFalse, 2, num(1), nothing, nothing, text("a"))
	wrong(api.ErrArg, 2, num(1), nothing, api.Value{Text: "a"}, text("a"))
	wrong(api.ErrArg, 3, num(1), text(so(40)), text(so(40)), text(so(40)))
	// Of all values ahead of the row's length.
	wrong(api.ErrArg, 3, num(1), text(so(40)), text(so(40)), api.Value{Kind: api.Int, Text: so(40)})
	wrong(api.ErrFalse, 0, nothing, text(so(40)), text(so(40)), num(1))
	wrong(api.ErrLimit, -1, num(1), text(so(40)), text(so(40)), num(1))
	h.has("t", Row{1, right})
	h.insert("t", 2, right)
}

// TestWrongInEachWay: 13.1: of each table of up to three columns each row of values that are right or wrong in any way, held against the promise.
func TestWrongInEachWay(t *testing.T) {
	columns := []api.Column{{Name: "a", Kind: api.Int}, {Name: "a", Kind: api.Text, Must: true}, {Name: "a", Kind: api.Int, Must: true}, {Name: "a", Kind: api.Text, Words: true}}
	values := []api.Value{nothing, num(5), text("fox"), {Num: 5}, {Kind: 3}}
	// What is wrong with a value of a column.
	one := func(c api.Column, v api.Value) api.Errno {
		switch {
		case v == values[3] || v == values[4]:
			return api.ErrArg
		case v == nothing && c.Must:
			return api.ErrFalse
		case v != nothing && v.Kind != c.Kind:
			return api.ErrArg
		}
		return api.OK
	}
	count := func(n, base int) (m int) {
		for m = 1; n > 0; n-- {
			m *= base
		}
		return m
	}
	for n := 1; n <= 3; n++ {
		for c := range count(n, len(columns)) {
			x := api.Table{Name: "t"}
			for i := range n {
				col := columns[c/count(i, len(columns))%len(columns)]
				col.Name = fmt.Sprint("c", i)
				x.Columns = append(x.Columns, col)
			}
			h := built(t, x)
			m := h.pager.Mark()
			for v := range count(n, len(values)) {
				var l []api.Value
				want, place := api.OK, 0
				for i := range n {
					l = append(l, values[v/count(i, len(values))%len(values)])
					if want == api.OK {
						want, place = one(x.Columns[i], l[i]), i
					}
				}
				if want == api.OK {
					h.insert("t", 1, l)
					h.has("t", Row{1, l})
					told(t, "Back", h.pager.Back(m), nil)
					continue
				}
				_, err := h.Insert("t", l)
				placed(t, fmt.Sprintf("Insert %v into %v", l, x.Columns), err, want, place)
			}
			h.has("t")
		}
	}
}

// TestLength: 13.1: a row whose Key has MaxItem bytes may be, one byte more is ErrLimit, without a place; however it is made up.
func TestLength(t *testing.T) {
	for n := 3; n <= 6; n++ {
		for ints := range n - 2 {
			for nulls := range n - 2 - ints {
				x := api.Table{Name: "t"}
				var l []api.Value
				left := api.MaxItem
				for i := range n {
					c := texts(fmt.Sprint("c", i))
					v := text("")
					if i < ints {
						c.Kind, v = api.Int, num(math.MinInt64)
					} else if i < ints+nulls {
						v = nothing
					}
					x.Columns = append(x.Columns, c)
					l = append(l, v)
					left -= keyed(v)
				}
				if left > 40*(n-ints-nulls) {
					continue
				}
				last := 0
				for i := n - 1; left > 0; i-- {
					many := min(left, 40)
					l[i] = text(so(many))
					left -= many
					last = i
				}
				if len(l[last].Text) == 40 {
					continue
				}
				h := built(t, indexed(x))
				h.insert("t", 1, l)
				h.has("t", Row{1, l})
				h.sums(10+api.MaxItem+2, n*13+api.MaxItem)
				want := h.all()
				more := slices.Clone(l)
				more[last].Text += "x"
				if _, err := h.Insert("t", more); err != api.ErrLimit {
					t.Errorf("Insert(%v) = %v", more, err)
				}
				told(t, "Update", h.Update("t", 1, more), api.ErrLimit)
				h.unchanged(want)
				less := slices.Clone(l)
				less[last].Text = less[last].Text[1:]
				told(t, "Update", h.Update("t", 1, less), nil)
				told(t, "Update", h.Update("t", 1, l), nil)
				h.unchanged(want)
			}
		}
	}
}

// TestHundred: 13.2: a hundred rows, and none more: then ErrFull, behind what is WRONG; one less, and there is room again. Each table has its own hundred.
func TestHundred(t *testing.T) {
	h := built(t, pair("t"), pair("u"))
	var want []Row
	for i := range 100 {
		h.insert("t", 1+i, row(num(int64(i)), nothing))
		want = append(want, Row{1 + i, row(num(int64(i)), nothing)})
	}
	h.has("t", want...)
	for range 3 {
		m := h.pager.Mark()
		if n, err := h.Insert("t", row(num(1), text("a"))); n != 0 || err != api.ErrFull {
			t.Errorf("Insert = %d, %v", n, err)
		}
		told(t, "Back", h.pager.Back(m), nil)
		_, err := h.Insert("t", row(num(1)))
		placed(t, "Insert", err, api.ErrArg, -1)
		_, err = h.Insert("t", row(nothing, nothing))
		placed(t, "Insert", err, api.ErrFalse, 0)
		_, err = h.Insert("t", row(num(1), num(1)))
		placed(t, "Insert", err, api.ErrArg, 1)
		h.has("t", want...)
	}
	h.insert("u", 1, row(num(1), text("a")))
	// A row may be changed yet; and the next one has the next number.
	told(t, "Update", h.Update("t", 50, row(num(-1), text("b"))), nil)
	want[49].Values = row(num(-1), text("b"))
	h.has("t", want...)
	told(t, "Delete", h.Delete("t", 7), nil)
	h.insert("t", 101, row(num(100), nothing))
	want = append(slices.Delete(want, 6, 7), Row{101, row(num(100), nothing)})
	h.has("t", want...)
	m := h.pager.Mark()
	if n, err := h.Insert("t", row(num(1), nothing)); n != 0 || err != api.ErrFull {
		t.Errorf("Insert = %d, %v", n, err)
	}
	told(t, "Back", h.pager.Back(m), nil)
	told(t, "Drop", h.Drop("t"), nil)
	told(t, "Create", h.Catalog.Create(pair("t")), nil)
	h.insert("t", 1, row(num(1), nothing))
	h.whole()
}

// TestNumbers: 13.2: numbers of rows that were taken out do not come again; each number is Took's.
func TestNumbers(t *testing.T) {
	h := built(t, pair("t"), pair("u"))
	one := row(num(1), text("a b"))
	h.insert("t", 1, one, one, one)
	told(t, "Delete", h.Delete("t", 3), nil)
	h.insert("t", 4, one)
	told(t, "Delete", h.Delete("t", 1), nil)
	told(t, "Delete", h.Delete("t", 2), nil)
	told(t, "Delete", h.Delete("t", 4), nil)
	h.has("t")
	h.insert("t", 5, one)
	h.insert("u", 1, one)
	if n, err := h.Catalog.Took("t"); n != 6 || err != nil {
		t.Errorf("Took = %d, %v", n, err)
	}
	h.insert("t", 7, one)
	h.has("t", Row{5, one}, Row{7, one})
	if e, err := h.Catalog.Get("t"); e.Next != 8 || err != nil {
		t.Errorf("Get = %v, %v", e, err)
	}
	// An Update, and an Insert that is WRONG, take none.
	told(t, "Update", h.Update("t", 5, one), nil)
	_, err := h.Insert("t", nil)
	placed(t, "Insert", err, api.ErrArg, -1)
	// Many of them, over the edges of bytes.
	for i := range 700 {
		h.insert("t", 8+i, one)
		if i%50 == 0 {
			h.has("t", Row{5, one}, Row{7, one}, Row{8 + i, one})
			h.whole()
		}
		told(t, "Delete", h.Delete("t", 8+i), nil)
	}
	h.insert("t", 708, one)
	h.has("t", Row{5, one}, Row{7, one}, Row{708, one})
	h.whole()
}

// TestScanInOrder: 13.2: rows by their numbers, whatever they have, and whatever was changed last.
func TestScanInOrder(t *testing.T) {
	h := built(t, indexed(pair("t")))
	for i := range 400 {
		h.insert("t", 1+i, row(num(int64(400-i)), nothing))
		if i >= 50 {
			told(t, "Delete", h.Delete("t", i-49), nil)
		}
	}
	var want []Row
	for i := 350; i < 400; i++ {
		want = append(want, Row{1 + i, row(num(int64(400-i)), nothing)})
	}
	h.has("t", want...)
	for i := range want {
		k := i * 7 % 50
		want[k].Values = row(num(int64(i)), text("x y"))
		told(t, "Update", h.Update("t", want[k].Id, want[k].Values), nil)
	}
	h.has("t", want...)
	h.whole()
}

// TestUpdate: 13.2: a row has just what it was changed to, to itself, too; its number stays, and all others stay as they are.
func TestUpdate(t *testing.T) {
	for _, x := range []api.Table{pair("t"), indexed(pair("t"))} {
		h := built(t, x, indexed(pair("u")))
		a, b := row(num(1), text("the cat sat")), row(num(2), text("the dog sat"))
		h.insert("t", 1, a, b, a)
		h.insert("u", 1, a, b)
		for _, l := range [][]api.Value{b, a, row(num(1), nothing), row(num(1), text("")), row(num(1), text("sat the cat")), row(num(1), text("cat cat cat")), row(num(5), text("the cat sat")), row(num(math.MinInt64), text("- -")), a} {
			told(t, "Update", h.Update("t", 1, l), nil)
			h.has("t", Row{1, l}, Row{2, b}, Row{3, a})
			h.has("u", Row{1, a}, Row{2, b})
			h.whole()
			// To itself.
			want := h.all()
			told(t, "Update", h.Update("t", 1, l), nil)
			h.unchanged(want)
		}
		h.insert("t", 4, a)
	}
}

// TestIndexAheadAndBehind: 13.2: whether an index is made ahead of the rows, between them, or behind them, by the table or by Index: it has the same.
func TestIndexAheadAndBehind(t *testing.T) {
	want := ""
	for when := range 8 {
		x := table("t", numbers("a"), texts("b"))
		if when == 0 {
			x = indexed(x)
		}
		h := built(t, table("s", numbers("a")), x)
		turn := func(now int) {
			if now == when {
				told(t, "Index", h.Index("t", "b"), nil)
				told(t, "Index", h.Index("t", "a"), nil)
				h.whole()
			}
		}
		turn(1)
		h.insert("t", 1, row(num(3), text("x")), row(nothing, text("y")))
		turn(2)
		h.insert("t", 3, row(num(-3), nothing), row(num(3), text("x")), row(nothing, nothing))
		turn(3)
		told(t, "Update", h.Update("t", 1, row(num(7), text(""))), nil)
		turn(4)
		told(t, "Delete", h.Delete("t", 4), nil)
		turn(5)
		told(t, "Update", h.Update("t", 2, row(nothing, nothing)), nil)
		turn(6)
		h.insert("s", 1, row(num(1)))
		told(t, "Drop", h.Drop("s"), nil)
		turn(7)
		h.whole()
		h.has("t", Row{1, row(num(7), text(""))}, Row{2, row(nothing, nothing)}, Row{3, row(num(-3), nothing)}, Row{5, row(nothing, nothing)})
		h.ranged("t", "a", nil, nil, 1, 3)
		h.ranged("t", "b", nil, nil, 1)
		l, err := h.tree(2).Walk("", -1)
		told(t, "Walk", err, nil)
		if got := fmt.Sprintf("%q", l); want == "" {
			want = got
		} else if got != want {
			t.Errorf("%d: %s, want %s", when, got, want)
		}
		if len(l) != 8 {
			t.Errorf("%d stand there", len(l))
		}
	}
}

// TestIndexWrong: 13.2, P2: ErrName, ErrTwice, and nothing is changed.
func TestIndexWrong(t *testing.T) {
	h := built(t, api.Table{Name: "t", Columns: pair("t").Columns, Indexes: []string{"b"}}, table("u", numbers("c")))
	h.insert("t", 1, row(num(1), text("a b")), row(num(2), text("b")))
	told(t, "Index", h.Index("t", "a"), nil)
	want := h.all()
	for range 2 {
		told(t, "Index", h.Index("t", "a"), api.ErrTwice)
		told(t, "Index", h.Index("t", "b"), api.ErrTwice)
		for _, s := range []string{"", "c", "t", "A", "a ", "a\x00", "\x00", "\x01", so(17), so(5000)} {
			told(t, "Index", h.Index("t", s), api.ErrName)
		}
		told(t, "Index", h.Index("u", "a"), api.ErrName)
	}
	h.unchanged(want)
	h.whole()
}

// TestDrop: 13.2: the table, and all its rows, are gone, from indexes and Words, too; all other tables stay as they are; one that has its number then has nothing of it.
func TestDrop(t *testing.T) {
	for _, name := range []string{"s", "t", "u"} {
		h := built(t, indexed(pair("s")), indexed(pair("t")), indexed(pair("u")))
		kept := map[string][]Row{}
		for i := range 30 {
			for _, s := range []string{"s", "t", "u"} {
				l := row(num(int64(i%7)), text(fmt.Sprint("cat ", s, " ", i%3)))
				h.insert(s, 1+i, l)
				kept[s] = append(kept[s], Row{1 + i, l})
			}
		}
		h.whole()
		told(t, "Drop", h.Drop(name), nil)
		delete(kept, name)
		h.whole()
		h.refused(name, api.ErrMissing)
		for s, l := range kept {
			h.has(s, l...)
		}
		if n, err := h.Words.Many(); n != 2*90 || err != nil {
			t.Errorf("Many() = %d, %v", n, err)
		}
		// The new one has the number that the old one had.
		told(t, "Create", h.Catalog.Create(indexed(table("new", worded("b"), numbers("a")))), nil)
		h.has("new")
		h.ranged("new", "a", nil, nil)
		h.insert("new", 1, row(text("cat"), num(1)))
		h.has("new", Row{1, row(text("cat"), num(1))})
		h.whole()
		for s := range kept {
			told(t, "Drop", h.Drop(s), nil)
		}
		told(t, "Drop", h.Drop("new"), nil)
		if h.pager.Used() != 1 {
			t.Errorf("%d pages are in use", h.pager.Used())
		}
	}
}

// TestRange: 13.2: the numbers, rising, of rows whose value is something, not below low, not above high, of all lows and highs, also such that are not Right.
func TestRange(t *testing.T) {
	numbersOf := []api.Value{num(5), num(-5), nothing, num(0), num(5), num(math.MaxInt64), num(math.MinInt64), nothing, num(-1), num(1), num(0)}
	textsOf := []api.Value{text("b"), text(""), nothing, text("a"), text("ab"), text("b"), text(so(40)), text("\xff"), nothing, text("\x01"), text("a\x01")}
	h := built(t, indexed(table("s", numbers("b"))), indexed(table("t", numbers("a"), texts("b"))), indexed(table("u", texts("a"))))
	var l []Row
	for i := range numbersOf {
		r := row(numbersOf[i], textsOf[i])
		l = append(l, Row{1 + i, r})
		h.insert("t", 1+i, r)
		h.insert("s", 1+i, r[:1])
		h.insert("u", 1+i, r[1:])
	}
	bounds := []*api.Value{nil, {Kind: 3}, {Kind: -1}, {Kind: math.MaxInt}, {Num: 3}, {Text: "a"}, {Kind: api.Int, Num: 5, Text: "a"}, {Kind: api.Text, Num: 1, Text: "b"}, {Kind: api.Text, Num: -1, Text: "b"}, {Kind: api.Text, Text: so(41)}, {Kind: api.Text, Text: "a\x00"}, {Kind: api.Text, Text: so(5000)}}
	for i := range numbersOf {
		bounds = append(bounds, &numbersOf[i], &textsOf[i])
	}
	for _, n := range []int64{2, -2, 6, math.MaxInt64 - 1} {
		v := num(n)
		bounds = append(bounds, &v)
	}
	for _, low := range bounds {
		for _, high := range bounds {
			for i, column := range []string{"a", "b"} {
				h.ranged("t", column, low, high, between(l, i, low, high)...)
			}
		}
	}
	// Some of these, as they are.
	low, high := num(0), num(5)
	h.ranged("t", "a", nil, nil, 1, 2, 4, 5, 6, 7, 9, 10, 11)
	h.ranged("t", "a", &low, nil, 1, 4, 5, 6, 10, 11)
	h.ranged("t", "a", nil, &high, 1, 2, 4, 5, 7, 9, 10, 11)
	h.ranged("t", "a", &low, &high, 1, 4, 5, 10, 11)
	h.ranged("t", "a", &high, &low)
	h.ranged("t", "a", &low, &low, 4, 11)
	h.ranged("t", "a", &nothing, nil, 1, 2, 4, 5, 6, 7, 9, 10, 11)
	h.ranged("t", "a", nil, &nothing)
	h.ranged("t", "a", &nothing, &nothing)
	s := text("")
	h.ranged("t", "a", &s, nil)
	h.ranged("t", "a", nil, &s, 1, 2, 4, 5, 6, 7, 9, 10, 11)
	h.ranged("t", "b", &low, nil, 1, 2, 4, 5, 6, 7, 8, 10, 11)
	h.ranged("t", "b", nil, &low)
	h.whole()
}

// TestRangeWithoutIndex: 13.2, P2: ErrName: no index by that column, or no such column.
func TestRangeWithoutIndex(t *testing.T) {
	h := built(t, api.Table{Name: "t", Columns: pair("t").Columns, Indexes: []string{"b"}}, indexed(table("u", numbers("a"), numbers("c"))))
	h.insert("t", 1, row(num(1), text("a")))
	v := num(1)
	for _, s := range []string{"a", "c", "", "B", "b ", "t", "\x00", "b\x00", so(5000)} {
		for _, low := range []*api.Value{nil, &v} {
			if l, err := h.Range("t", s, low, nil); l != nil || err != api.ErrName {
				t.Errorf("Range(%.40q) = %v, %v", s, l, err)
			}
		}
	}
	h.ranged("t", "b", nil, nil, 1)
	told(t, "Index", h.Index("t", "a"), nil)
	h.ranged("t", "a", &v, &v, 1)
}

// TestWords: 13.2: in Words are the words of all texts of columns that are Words, under the table's and the column's number, and of no others.
func TestWords(t *testing.T) {
	h := built(t, table("s", worded("a")), table("t", worded("a"), texts("b"), worded("c")))
	h.insert("s", 1, row(text("cat")))
	h.insert("t", 1, row(text("The cats jumped"), text("a cat"), nothing), row(nothing, text("dog"), text("jumping, jumped; the cat")))
	for _, x := range []struct {
		name, word string
		want       []api.Place
	}{
		{"t1c0", "cat", []api.Place{{Row: 1, At: 0}}},
		{"t2c0", "cat", []api.Place{{Row: 1, At: 1}}}, {"t2c0", "jump", []api.Place{{Row: 1, At: 2}}}, {"t2c0", "the", []api.Place{{Row: 1, At: 0}}},
		{"t2c2", "jump", []api.Place{{Row: 2, At: 0}, {Row: 2, At: 1}}}, {"t2c2", "cat", []api.Place{{Row: 2, At: 3}}},
		{"t2c1", "cat", nil}, {"t2c1", "dog", nil}, {"t2c0", "dog", nil},
	} {
		if l, err := h.Words.Places(x.name, x.word); err != nil || !slices.Equal(l, x.want) {
			t.Errorf("Places(%q, %q) = %v, %v", x.name, x.word, l, err)
		}
	}
	h.whole()
	told(t, "Update", h.Update("t", 2, row(text("cat"), nothing, nothing)), nil)
	h.whole()
	if l, err := h.Words.Begin("t2c2", ""); len(l) != 0 || err != nil {
		t.Errorf("Begin = %q, %v", l, err)
	}
	told(t, "Delete", h.Delete("t", 1), nil)
	h.whole()
	if n, err := h.Words.Many(); n != 2 || err != nil {
		t.Errorf("Many() = %d, %v", n, err)
	}
}

// TestAllTakenOut: 13.2: when all rows are taken out, none is left, nor a word, nor what stands in an index; and no page is in use but for the tables.
func TestAllTakenOut(t *testing.T) {
	for turn, step := range []int{1, 99, 7, 31} {
		h := built(t, indexed(pair("t")), indexed(table("u", worded("a"), worded("b"))))
		used := h.pager.Used()
		for i := range 100 {
			h.insert("t", 1+i, row(num(int64(i*7%10)), text([]string{"", "cat dog", "jumping foxes", "cat cat"}[i%4])))
			h.insert("u", 1+i, row(text("fox"), text(fmt.Sprint(i))))
		}
		h.whole()
		for i := range 100 {
			told(t, "Delete", h.Delete("t", 1+i*step%100), nil)
			if turn%2 == 0 {
				told(t, "Delete", h.Delete("u", 100-i*step%100), nil)
			}
			if i%20 == 0 {
				h.whole()
			}
		}
		if turn%2 == 1 {
			told(t, "Drop", h.Drop("u"), nil)
			told(t, "Create", h.Catalog.Create(indexed(pair("u"))), nil)
		}
		h.sums(0, 0)
		if n, err := h.Words.Many(); n != 0 || err != nil || h.pager.Used() != used {
			t.Errorf("%d words are left, %v, %d pages are in use, want %d", n, err, h.pager.Used(), used)
		}
		h.whole()
		h.has("t")
		h.ranged("t", "a", nil, nil)
		h.insert("t", 101, row(num(1), text("a")))
	}
}

// TestSecondStore: 13.1, P1: two stores over one pager are one.
func TestSecondStore(t *testing.T) {
	a := built(t, pair("t"))
	b := over(t, a.disk, a.pager)
	a.insert("t", 1, row(num(1), text("cat")))
	b.insert("t", 2, row(num(2), text("dog")))
	told(t, "Index", b.Index("t", "a"), nil)
	told(t, "Index", a.Index("t", "a"), api.ErrTwice)
	told(t, "Update", a.Update("t", 2, row(num(3), text("dogs and cats"))), nil)
	for _, h := range []*house{a, b, over(t, a.disk, a.pager)} {
		h.has("t", Row{1, row(num(1), text("cat"))}, Row{2, row(num(3), text("dogs and cats"))})
		h.ranged("t", "a", nil, nil, 1, 2)
		h.whole()
	}
	told(t, "Delete", b.Delete("t", 1), nil)
	a.has("t", Row{2, row(num(3), text("dogs and cats"))})
	told(t, "Drop", b.Drop("t"), nil)
	a.refused("t", api.ErrMissing)
}

// TestAsThePagerIs: P1: what the pager takes back is taken back; what it commits is there for one that is opened anew.
func TestAsThePagerIs(t *testing.T) {
	h := built(t, pair("t"), indexed(pair("u")))
	one, two := row(num(1), text("a cat")), row(num(2), text("two cats"))
	h.insert("t", 1, one, two)
	h.insert("u", 1, one)
	told(t, "Commit", h.pager.Commit(), nil)
	committed := h.all()
	h.insert("t", 3, two)
	m, marked := h.pager.Mark(), h.all()
	told(t, "Index", h.Index("t", "b"), nil)
	told(t, "Update", h.Update("t", 1, two), nil)
	told(t, "Delete", h.Delete("t", 2), nil)
	told(t, "Drop", h.Drop("u"), nil)
	h.whole()
	told(t, "Back", h.pager.Back(m), nil)
	h.unchanged(marked)
	h.has("t", Row{1, one}, Row{2, two}, Row{3, two})
	h.has("u", Row{1, one})
	h.whole()
	told(t, "Rollback", h.pager.Rollback(), nil)
	h.unchanged(committed)
	h.has("t", Row{1, one}, Row{2, two})
	h.insert("t", 3, one)
	told(t, "Index", h.Index("t", "a"), nil)
	told(t, "Commit", h.pager.Commit(), nil)
	told(t, "Drop", h.Drop("t"), nil)
	a := over(t, h.disk, opened(t, h.disk))
	a.has("t", Row{1, one}, Row{2, two}, Row{3, one})
	a.has("u", Row{1, one})
	v := num(1)
	a.ranged("t", "a", &v, &v, 1, 3)
	a.whole()
	told(t, "Index", a.Index("t", "a"), api.ErrTwice)
	a.insert("t", 4, two)
	told(t, "Delete", a.Delete("t", 1), nil)
	a.whole()
}

// TestDown: 13.1, P2, P3: if the pager is Down, all tell ErrState, whatever else is wrong; one that is opened anew has what was committed.
func TestDown(t *testing.T) {
	for _, filled := range []bool{false, true} {
		h := built(t)
		one := row(num(1), text("a"))
		if filled {
			told(t, "Create", h.Catalog.Create(indexed(pair("t"))), nil)
			h.insert("t", 1, one)
			told(t, "Commit", h.pager.Commit(), nil)
			h.insert("t", 2, one)
		}
		h.disk.Cut(0, 0)
		told(t, "Commit", h.pager.Commit(), api.ErrDevice)
		for range 2 {
			for _, s := range append(wrongNames(), "t") {
				h.refused(s, api.ErrState)
				// A store can be laid over it yet, as a tree can be, but tells no more.
				over(t, h.disk, h.pager).refused(s, api.ErrState)
			}
			if l, err := h.Catalog.Names(); l != nil || err != api.ErrState {
				t.Errorf("Names() = %q, %v", l, err)
			}
			if n, err := h.Words.Many(); n != 0 || err != api.ErrState {
				t.Errorf("Many() = %d, %v", n, err)
			}
			// The power is back, but this pager stays Down.
			h.disk.Cut(-1, 0)
		}
		a := over(t, h.disk, opened(t, h.disk))
		if filled {
			a.has("t", Row{1, one})
			a.insert("t", 2, one)
		}
		a.whole()
	}
}

// TestOffInCommit: P1: wherever the power goes off, one that is opened anew has all of a Commit, or nothing of it, and rows, indexes and Words are of one piece.
func TestOffInCommit(t *testing.T) {
	for writes := range 40 {
		h := built(t, indexed(pair("t")), indexed(pair("u")))
		for i := range 30 {
			h.insert("t", 1+i, row(num(int64(i)), text("cat dog")))
			h.insert("u", 1+i, row(num(int64(i)), text("fox")))
		}
		told(t, "Commit", h.pager.Commit(), nil)
		ahead := h.all()
		for i := range 30 {
			told(t, "Update", h.Update("t", 1+i, row(num(int64(-i)), text("a longer text than it was"))), nil)
		}
		told(t, "Drop", h.Drop("u"), nil)
		behind := h.all()
		h.disk.Cut(writes, writes*29%api.PageSize)
		err := h.pager.Commit()
		on := h.disk.On()
		h.disk.Cut(-1, 0)
		a := over(t, h.disk, opened(t, h.disk))
		if got := a.all(); got != behind && (err == nil || got != ahead) {
			t.Errorf("%d writes: %v: neither all nor nothing", writes, err)
		}
		a.whole()
		if writes == 39 && (err != nil || !on) {
			t.Errorf("a Commit takes more than %d writes: %v", writes, err)
		}
	}
}
