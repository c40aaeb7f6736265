package catalog

import (
	"fmt"
	"slices"
	"testing"

	"concordance/api"
	"concordance/disk"
	"concordance/pager"
	"concordance/plain"
)

// die: numbers that look drawn, the same each time.
type die uint64

func (d *die) below(n int) int {
	*d = *d*6364136223846793005 + 1442695040888963407
	return int(uint64(*d>>33) % uint64(n))
}

// pick is one of these.
func (d *die) pick(l ...string) string { return l[d.below(len(l))] }

// list is a catalog by its promise alone: entries, in no order.
type list []Entry

// find is where a table stands.
func (l list) find(name string) int {
	for i, e := range l {
		if e.Table.Name == name {
			return i
		}
	}
	return -1
}

func (l *list) Create(x api.Table) error {
	if err := Check(x); err != nil {
		return err
	}
	if l.find(x.Name) >= 0 {
		return api.ErrTwice
	}
	if len(*l) == 20 {
		return api.ErrFull
	}
	var taken [22]bool
	for _, e := range *l {
		taken[e.Id] = true
	}
	e := Entry{Id: 1, Next: 1, Table: api.Table{Name: x.Name, Columns: x.Columns}}
	for taken[e.Id] {
		e.Id++
	}
	for _, c := range x.Columns {
		if slices.Contains(x.Indexes, c.Name) {
			e.Table.Indexes = append(e.Table.Indexes, c.Name)
		}
	}
	*l = append(slices.Clone(*l), e)
	return nil
}

func (l *list) Index(name, column string) error {
	i := l.find(name)
	if i < 0 {
		return api.ErrMissing
	}
	e, there := (*l)[i], false
	var indexes []string
	for _, c := range e.Table.Columns {
		there = there || c.Name == column
		if c.Name == column || slices.Contains(e.Table.Indexes, c.Name) {
			indexes = append(indexes, c.Name)
		}
	}
	if !there {
		return api.ErrName
	}
	if len(indexes) == len(e.Table.Indexes) {
		return api.ErrTwice
	}
	*l = slices.Clone(*l)
	(*l)[i].Table.Indexes = indexes
	return nil
}

func (l *list) Took(name string) (int, error) {
	i := l.find(name)
	if i < 0 {
		return 0, api.ErrMissing
	}
	*l = slices.Clone(*l)
	(*l)[i].Next++
	return (*l)[i].Next - 1, nil
}

func (l *list) Drop(name string) error {
	i := l.find(name)
	if i < 0 {
		return api.ErrMissing
	}
	*l = slices.Delete(slices.Clone(*l), i, i+1)
	return nil
}

func (l list) Names() (m []string) {
	for _, e := range l {
		m = append(m, e.Table.Name)
	}
	slices.Sort(m)
	return m
}

// hall is a catalog, and a list of what it has, now, as it was committed last, and as it was at the mark.
type hall struct {
	t                *testing.T
	dice             die
	few              int
	disk             *disk.Disk
	pager            *pager.Pager
	catalog          *Catalog
	list, last, then list
	mark             pager.Mark
	marked           bool
}

// anew opens the disk.
func (h *hall) anew() {
	h.pager = opened(h.t, h.disk)
	h.catalog = over(h.t, h.pager)
	h.list, h.marked = h.last, false
}

// name is one of few or of many, seldom one that may not be.
func (h *hall) name() string {
	if h.dice.below(40) == 0 {
		return h.dice.pick(wrongNames()...)
	}
	n := h.dice.below(h.few)
	return []string{"t", "tt", "t\x01", "\xff"}[n%4] + fmt.Sprint(n/4)
}

// columns are some, seldom wrong ones.
func (h *hall) columns() (l []api.Column) {
	d := &h.dice
	for i := range 1 + d.below(6) {
		c := api.Column{Name: fmt.Sprint(d.pick("a", "b", "c"), i), Kind: 1 + d.below(2), Must: d.below(2) == 0}
		if d.below(3) == 0 {
			c.Name += d.pick("a long name", "\x01", "\xff")
		}
		c.Words = c.Kind == api.Text && d.below(2) == 0
		switch d.below(100) {
		case 0:
			c.Name = "a0"
		case 1:
			c.Kind = 3 * d.below(2)
		case 2:
			c.Words = true
		case 3:
			c.Name = d.pick(wrongNames()...)
		}
		l = append(l, c)
	}
	return l
}

// column is one of a table's, or none.
func (h *hall) column(name string) string {
	i := h.list.find(name)
	if i < 0 || h.dice.below(8) == 0 {
		return h.dice.pick("a0", "none", "", "b1")
	}
	l := h.list[i].Table.Columns
	return l[h.dice.below(len(l))].Name
}

// step does one thing to both the catalog and the list. Each hundred steps there are mostly tables made, or mostly taken out.
func (h *hall) step(n int) string {
	name, what := h.name(), h.dice.below(20)
	if what == 12 && n/100%2 == 0 {
		what = 0
	}
	said := fmt.Sprintf("%d %.40q", what, name)
	switch {
	case what < 5:
		x := table(name, h.columns()...)
		for range h.dice.below(4) {
			x.Indexes = append(x.Indexes, h.dice.pick(x.Columns[h.dice.below(len(x.Columns))].Name, "none"))
		}
		e, place := plain.Place(h.list.Create(x))
		got, at := plain.Place(h.catalog.Create(x))
		if got != e || at != place {
			h.t.Errorf("%s: Create(%q) = %v at %d, want %v at %d", said, fmt.Sprint(x), got, at, e, place)
		}
	case what < 8:
		s := h.column(name)
		told(h.t, said+": Index", h.catalog.Index(name, s), h.list.Index(name, s))
	case what < 12:
		want, e := h.list.Took(name)
		if row, err := h.catalog.Took(name); row != want || err != e {
			h.t.Errorf("%s: Took = %d, %v, want %d, %v", said, row, err, want, e)
		}
	case what < 15:
		told(h.t, said+": Drop", h.catalog.Drop(name), h.list.Drop(name))
	default:
		h.turn()
	}
	return said
}

// turn does something rare, to the pager beneath.
func (h *hall) turn() {
	switch h.dice.below(12) {
	case 0, 1, 2:
		told(h.t, "Commit", h.pager.Commit(), nil)
		h.last, h.marked = h.list, false
	case 3:
		told(h.t, "Rollback", h.pager.Rollback(), nil)
		h.list = h.last
	case 4, 5:
		h.mark, h.then, h.marked = h.pager.Mark(), h.list, true
	case 6:
		if h.marked {
			told(h.t, "Back", h.pager.Back(h.mark), nil)
			h.list = h.then
		}
	case 7:
		h.anew()
	case 8:
		h.catalog = over(h.t, h.pager)
	}
}

// TestModel: 12.2: many steps on a catalog whose pager takes back, commits and is opened anew, each held against a plain list.
func TestModel(t *testing.T) {
	for seed := range 30 {
		h := &hall{t: t, dice: die(seed), few: []int{3, 12, 30, 200}[seed%4], disk: &disk.Disk{}}
		h.anew()
		full := 0
		for n := range 600 {
			said := h.step(n)
			named(t, h.catalog, h.list.Names()...)
			for _, e := range h.list {
				has(t, h.catalog, e)
			}
			if s := h.name(); h.list.find(s) < 0 {
				missing(t, h.catalog, s, api.ErrMissing)
			}
			if t.Failed() {
				t.Fatalf("seed %d, step %d: %s", seed, n, said)
			}
			if len(h.list) == 20 {
				full++
			}
		}
		if h.few == 200 && full == 0 {
			t.Errorf("seed %d: it was never full", seed)
		}
	}
}
