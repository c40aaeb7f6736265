package store

import (
	"fmt"
	"maps"
	"slices"
	"strings"
	"testing"

	"concordance/api"
	"concordance/disk"
	"concordance/pager"
	"concordance/plain"
	"concordance/value"
	"concordance/word"
)

// die: numbers that look drawn, the same each time.
type die uint64

func (d *die) below(n int) int {
	*d = *d*6364136223846793005 + 1442695040888963407
	return int(uint64(*d>>33) % uint64(n))
}

// pick is one of these.
func (d *die) pick(l ...string) string { return l[d.below(len(l))] }

// sheet is a table by its promise alone.
type sheet struct {
	columns []api.Column
	indexes []string
	next    int
	rows    []Row // by their numbers
}

// book is a store by its promise alone: tables by their names. None that stands in it is ever changed: others take its place.
type book map[string]sheet

// find is where a row stands in a sheet; below 0: nowhere.
func (x sheet) find(n int) int {
	return slices.IndexFunc(x.rows, func(r Row) bool { return r.Id == n })
}

// wrong is what is wrong with a row.
func (x sheet) wrong(l []api.Value) error {
	if len(l) != len(x.columns) {
		return api.ErrArg
	}
	for i, v := range l {
		if !value.Right(v) || v != nothing && v.Kind != x.columns[i].Kind {
			return &api.At{Err: api.ErrArg, Place: i}
		}
		if v == nothing && x.columns[i].Must {
			return &api.At{Err: api.ErrFalse, Place: i}
		}
	}
	if keyed(l...) > api.MaxItem {
		return api.ErrLimit
	}
	return nil
}

// full says whether a book has more than there is room for.
func (b book) full() bool {
	rows, indexes, places := 0, 0, 0
	for _, x := range b {
		for _, r := range x.rows {
			rows += 12 + keyed(r.Values...)
			for i, c := range x.columns {
				if slices.Contains(x.indexes, c.Name) {
					indexes += 13 + keyed(r.Values[i])
				}
				if c.Words {
					places += len(word.Split(r.Values[i].Text))
				}
			}
		}
	}
	return rows > api.MaxSum || indexes > api.MaxSum || places > 500
}

// with is the book with another sheet, or, with ErrFull, as it was.
func (b book) with(name string, x sheet) (book, error) {
	c := maps.Clone(b)
	c[name] = x
	if c.full() {
		return b, api.ErrFull
	}
	return c, nil
}

func (b book) insert(name string, l []api.Value) (book, int, error) {
	x, ok := b[name]
	if !ok {
		return b, 0, api.ErrMissing
	}
	if err := x.wrong(l); err != nil {
		return b, 0, err
	}
	if len(x.rows) == 100 {
		return b, 0, api.ErrFull
	}
	n := x.next
	x.rows = append(slices.Clip(x.rows), Row{n, l})
	x.next++
	c, err := b.with(name, x)
	if err != nil {
		n = 0
	}
	return c, n, err
}

func (b book) update(name string, n int, l []api.Value) (book, error) {
	x, ok := b[name]
	i := x.find(n)
	if !ok || i < 0 {
		return b, api.ErrMissing
	}
	if err := x.wrong(l); err != nil {
		return b, err
	}
	x.rows = slices.Clone(x.rows)
	x.rows[i] = Row{n, l}
	return b.with(name, x)
}

func (b book) delete(name string, n int) (book, error) {
	x, ok := b[name]
	i := x.find(n)
	if !ok || i < 0 {
		return b, api.ErrMissing
	}
	x.rows = slices.Delete(slices.Clone(x.rows), i, i+1)
	return b.with(name, x)
}

func (b book) index(name, column string) (book, error) {
	x, ok := b[name]
	if !ok {
		return b, api.ErrMissing
	}
	if !slices.ContainsFunc(x.columns, func(c api.Column) bool { return c.Name == column }) {
		return b, api.ErrName
	}
	if slices.Contains(x.indexes, column) {
		return b, api.ErrTwice
	}
	x.indexes = append(slices.Clip(x.indexes), column)
	return b.with(name, x)
}

func (b book) drop(name string) (book, error) {
	if _, ok := b[name]; !ok {
		return b, api.ErrMissing
	}
	c := maps.Clone(b)
	delete(c, name)
	return c, nil
}

// hall is a store, and a book of what it has, now, as it was committed last, and as it was at the mark.
type hall struct {
	*house
	dice             die
	fill             string // with what texts are filled up (empty: with nothing): then rows are seldom taken out
	book, last, then book
	mark             pager.Mark
	marked           bool
	fulls            int
}

// anew opens the disk.
func (h *hall) anew() {
	h.house = over(h.t, h.disk, opened(h.t, h.disk))
	h.book, h.marked = h.last, false
}

// name is a table's, seldom none.
func (h *hall) name() string { return h.dice.pick("s", "s", "t", "t", "u", "v", "none") }

// value is one of a kind, sometimes nothing, seldom a wrong one.
func (h *hall) value(kind int) api.Value {
	d := &h.dice
	switch d.below(40) {
	case 0:
		return []api.Value{{Kind: 3}, {Num: 1}, {Kind: kind, Num: 1, Text: "a"}, text(so(41)), text("a\x00b"), num(1), text("a")}[d.below(7)]
	case 1, 2, 3:
		return nothing
	}
	if kind == api.Int {
		return num(int64(d.below(9) - 4))
	}
	var l []string
	for range d.below(5) {
		l = append(l, d.pick("a", "cat", "Cats", "jumping", "jumped", "x", "\xe9", "longerthantwelveletters", ""))
	}
	s := strings.Join(l, d.pick(" ", "-", ". "))
	if d.below(4) > 0 {
		s += strings.Repeat(h.fill, 40)
	}
	return text(s[:min(len(s), 20+d.below(21))])
}

// values are a row, seldom one of too few or too many values.
func (h *hall) values(name string) (l []api.Value) {
	for _, c := range h.book[name].columns {
		l = append(l, h.value(c.Kind))
	}
	if h.dice.below(40) == 0 {
		return append(l, h.value(api.Int))[h.dice.below(2)*2%(len(l)+1):]
	}
	return l
}

// number is a row's, seldom of none.
func (h *hall) number(name string) int {
	l := h.book[name].rows
	if len(l) == 0 || h.dice.below(10) == 0 {
		return h.dice.below(12) - 1
	}
	return l[h.dice.below(len(l))].Id
}

// agree fails, unless both tell the same error; with one all is taken back.
func (h *hall) agree(said string, m pager.Mark, err, want error) {
	e, at := plain.Place(err)
	f, place := plain.Place(want)
	if e != f || at != place {
		h.t.Errorf("%s: %v at %d, want %v at %d", said, e, at, f, place)
	}
	if want == api.ErrFull {
		h.fulls++
	}
	if err != nil {
		told(h.t, "Back", h.pager.Back(m), nil)
	}
}

// step does one thing to both the store and the book.
func (h *hall) step() string {
	name, what := h.name(), h.dice.below(24)
	n, l := h.number(name), h.values(name)
	if h.fill != "" && (what > 12 && what < 16 || what == 18) {
		what = 0
	}
	said := fmt.Sprintf("%d %q %d %q", what, name, n, fmt.Sprint(l))
	m, was := h.pager.Mark(), h.book
	var want, err error
	switch {
	case what < 9:
		var row, got int
		h.book, row, want = h.book.insert(name, l)
		if got, err = h.Insert(name, l); got != row {
			h.t.Errorf("Insert = %d, want %d", got, row)
		}
	case what < 13:
		h.book, want = h.book.update(name, n, l)
		err = h.Update(name, n, l)
	case what < 16:
		h.book, want = h.book.delete(name, n)
		err = h.Delete(name, n)
	case what == 16 || what == 17:
		column := h.dice.pick("a", "b", "c", "d")
		h.book, want = h.book.index(name, column)
		err = h.Index(name, column)
	case what == 18:
		h.book, want = h.book.drop(name)
		err = h.Drop(name)
	case what == 19:
		h.create(name)
		return said
	default:
		h.turn()
		return said
	}
	if want != nil {
		h.book = was
	}
	h.agree(said, m, err, want)
	return said
}

// create makes a table that is not there.
func (h *hall) create(name string) {
	if _, ok := h.book[name]; ok || name == "none" {
		return
	}
	x := api.Table{Name: name}
	for _, s := range []string{"a", "b", "c", "d"}[:1+h.dice.below(4)] {
		c := api.Column{Name: s, Kind: 1 + h.dice.below(2), Must: h.dice.below(4) == 0}
		c.Words = c.Kind == api.Text && h.dice.below(2) == 0
		x.Columns = append(x.Columns, c)
		if h.dice.below(2) == 0 {
			x.Indexes = append(x.Indexes, s)
		}
	}
	told(h.t, "Create", h.Catalog.Create(x), nil)
	h.book, _ = h.book.with(name, sheet{columns: x.Columns, indexes: x.Indexes, next: 1})
}

// turn does something rare, to the pager beneath.
func (h *hall) turn() {
	what := h.dice.below(16)
	if h.fill != "" && h.dice.below(8) > 0 {
		what = 0
	}
	switch what {
	case 0, 1, 2, 3, 4:
		told(h.t, "Commit", h.pager.Commit(), nil)
		h.last, h.marked = h.book, false
	case 5:
		told(h.t, "Rollback", h.pager.Rollback(), nil)
		h.book = h.last
	case 6, 7, 8:
		h.mark, h.then, h.marked = h.pager.Mark(), h.book, true
	case 9:
		if h.marked {
			told(h.t, "Back", h.pager.Back(h.mark), nil)
			h.book = h.then
		}
	case 10:
		h.anew()
	case 11:
		h.house = over(h.t, h.disk, h.pager)
	}
}

// look fails, unless the store has just what the book has.
func (h *hall) look(wholly bool) {
	names, err := h.Catalog.Names()
	told(h.t, "Names", err, nil)
	if want := slices.Sorted(maps.Keys(h.book)); !slices.Equal(names, want) {
		h.t.Errorf("Names() = %q, want %q", names, want)
	}
	for name, x := range h.book {
		h.has(name, x.rows...)
		for i, c := range x.columns {
			low, high := h.value(c.Kind), h.value(c.Kind)
			l, err := h.Range(name, c.Name, &low, &high)
			if !slices.Contains(x.indexes, c.Name) {
				told(h.t, "Range", err, api.ErrName)
			} else if want := between(x.rows, i, &low, &high); err != nil || !slices.Equal(l, want) {
				h.t.Errorf("Range(%q, %q, %v, %v) = %v, %v, want %v", name, c.Name, low, high, l, err, want)
			}
		}
	}
	if wholly {
		h.whole()
	}
}

// TestModel: 13.1, 13.2, 13.3: many steps on a store whose pager takes back, commits and is opened anew, each held against a plain book.
func TestModel(t *testing.T) {
	for seed := range 24 {
		h := &hall{dice: die(seed), fill: []string{"", "x", "", " y"}[seed%4], house: &house{t: t, disk: &disk.Disk{}}, last: book{}}
		h.anew()
		// To fill it up takes many steps, and to look at much takes long.
		steps, often := 500, 1
		if h.fill != "" {
			steps, often = 1500, 15
		}
		for n := range steps {
			said := h.step()
			if n%often == 0 {
				h.look(n%(10*often) == 0)
			}
			if t.Failed() {
				t.Fatalf("seed %d, step %d: %s", seed, n, said)
			}
		}
		if h.fill != "" && h.fulls == 0 {
			t.Errorf("seed %d: it was never full", seed)
		}
	}
}
