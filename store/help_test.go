package store

import (
	"fmt"
	"slices"
	"strings"
	"testing"

	"concordance/api"
	"concordance/disk"
	"concordance/finder"
	"concordance/pager"
	"concordance/plain"
	"concordance/tree"
	"concordance/value"
	"concordance/word"
)

// house is a store, and what it lies over.
type house struct {
	*Store
	t     *testing.T
	disk  *disk.Disk
	pager *pager.Pager
}

// opened is a pager of a disk that has power.
func opened(t *testing.T, d *disk.Disk) *pager.Pager {
	t.Helper()
	p, err := pager.Open(d)
	if err != nil || p == nil {
		t.Fatalf("Open: %v, %v", p, err)
	}
	return p
}

// over is a store over a pager.
func over(t *testing.T, d *disk.Disk, p *pager.Pager) *house {
	t.Helper()
	s, err := Over(p)
	if err != nil || s == nil || s.Catalog == nil || s.Words == nil {
		t.Fatalf("Over: %v, %v", s, err)
	}
	return &house{s, t, d, p}
}

// built is a store over an empty disk, with these tables.
func built(t *testing.T, l ...api.Table) *house {
	t.Helper()
	d := &disk.Disk{}
	h := over(t, d, opened(t, d))
	for _, x := range l {
		told(t, "Create", h.Catalog.Create(x), nil)
	}
	return h
}

// table is one with these columns.
func table(name string, l ...api.Column) api.Table { return api.Table{Name: name, Columns: l} }

// indexed is a table with indexes by all its columns.
func indexed(x api.Table) api.Table {
	for _, c := range x.Columns {
		x.Indexes = append(slices.Clip(x.Indexes), c.Name)
	}
	return x
}

// Columns: of numbers, of texts, of texts whose words are looked for.
func numbers(name string) api.Column { return api.Column{Name: name, Kind: api.Int} }
func texts(name string) api.Column   { return api.Column{Name: name, Kind: api.Text} }
func worded(name string) api.Column  { return api.Column{Name: name, Kind: api.Text, Words: true} }

// must is a column that must be there.
func must(c api.Column) api.Column {
	c.Must = true
	return c
}

// Values: a number, a text, nothing.
func num(n int64) api.Value   { return api.Value{Kind: api.Int, Num: n} }
func text(s string) api.Value { return api.Value{Kind: api.Text, Text: s} }

var nothing api.Value

// row is a list of values.
func row(l ...api.Value) []api.Value { return l }

// so is a text of so many bytes.
func so(n int) string { return strings.Repeat("x", n) }

// told fails, unless an error is this one, as it is.
func told(t *testing.T, what string, err, want error) {
	t.Helper()
	if err != want {
		t.Errorf("%s: %v, want %v", what, err, want)
	}
}

// placed fails, unless an error is of that number, at that place (below 0: it has no At).
func placed(t *testing.T, what string, err error, want api.Errno, place int) {
	t.Helper()
	if place < 0 {
		told(t, what, err, want)
		return
	}
	if e, at := plain.Place(err); e != want || at != place {
		t.Errorf("%s: %v at %d, want %v at %d", what, e, at, want, place)
	}
}

// insert puts rows in, and fails, unless their numbers rise by one from this one on.
func (h *house) insert(name string, first int, l ...[]api.Value) {
	h.t.Helper()
	for i, values := range l {
		if n, err := h.Insert(name, values); n != first+i || err != nil {
			h.t.Errorf("Insert(%q, %v) = %d, %v, want %d", name, values, n, err, first+i)
		}
	}
}

// same says whether two rows say the same: an empty list may be nil or not.
func same(a, b Row) bool { return a.Id == b.Id && slices.Equal(a.Values, b.Values) }

// has fails, unless a table has just these rows, by Scan and by Get.
func (h *house) has(name string, want ...Row) {
	h.t.Helper()
	if l, err := h.Scan(name); err != nil || !slices.EqualFunc(l, want, same) {
		h.t.Errorf("Scan(%q) = %v, %v, want %v", name, l, err, want)
	}
	for _, r := range want {
		if got, err := h.Get(name, r.Id); err != nil || !same(got, r) {
			h.t.Errorf("Get(%q, %d) = %v, %v, want %v", name, r.Id, got, err, r)
		}
	}
}

// ranged fails, unless Range tells just these rows.
func (h *house) ranged(name, column string, low, high *api.Value, want ...int) {
	h.t.Helper()
	if l, err := h.Range(name, column, low, high); err != nil || !slices.Equal(l, want) {
		h.t.Errorf("Range(%q, %q, %v, %v) = %v, %v, want %v", name, column, low, high, l, err, want)
	}
}

// tree is the pager's tree at a root.
func (h *house) tree(root int) *tree.Tree {
	h.t.Helper()
	r, err := tree.At(h.pager, root)
	told(h.t, "At", err, nil)
	return r
}

// sums fails, unless the trees of rows and of indexes have these Sums.
func (h *house) sums(rows, indexes int) {
	h.t.Helper()
	if a, b := h.tree(1).Sum(), h.tree(2).Sum(); a != rows || b != indexes {
		h.t.Errorf("the sums are %d and %d, want %d and %d", a, b, rows, indexes)
	}
}

// all is all that lies in the trees, and how many pages are in use.
func (h *house) all() string {
	h.t.Helper()
	s := fmt.Sprint(h.pager.Used())
	for root := range api.Roots {
		l, err := h.tree(root).Walk("", -1)
		told(h.t, "Walk", err, nil)
		s += fmt.Sprintf(" %q", l)
	}
	return s
}

// unchanged fails, unless all that lies there is as it was.
func (h *house) unchanged(want string) {
	h.t.Helper()
	if got := h.all(); got != want {
		h.t.Fatalf("%s, want %s", got, want)
	}
}

// found is what the rows of one column have, by their texts alone: of each word its places.
func found(rows []Row, i int) map[string][]api.Place {
	l := map[string][]api.Place{}
	for _, r := range rows {
		for k, w := range word.Split(r.Values[i].Text) {
			l[w] = append(l[w], api.Place{Row: r.Id, At: k})
		}
	}
	return l
}

// whole fails, unless indexes, Words and the Sums of the trees have just what the rows have, no more and no less.
func (h *house) whole() {
	h.t.Helper()
	// By the pager's trees: what lies where is promised, too.
	f, err := finder.Over(h.tree(3))
	told(h.t, "Over", err, nil)
	names, err := h.Catalog.Names()
	told(h.t, "Names", err, nil)
	rowSum, indexSum, places := 0, 0, 0
	for _, name := range names {
		e, err := h.Catalog.Get(name)
		told(h.t, "Get", err, nil)
		l, err := h.Scan(name)
		told(h.t, "Scan", err, nil)
		for _, r := range l {
			rowSum += 10 + keyed(r.Values...) + 2
		}
		for i, c := range e.Table.Columns {
			if slices.Contains(e.Table.Indexes, c.Name) {
				indexSum += h.wholeIndex(name, c.Name, l, i)
			} else {
				_, err := h.Range(name, c.Name, nil, nil)
				told(h.t, "Range", err, api.ErrName)
			}
			var told []Row
			if c.Words {
				told = l
			}
			places += wholeWords(h.t, f, e.Words(i), found(told, i))
		}
	}
	h.sums(rowSum, indexSum)
	for _, x := range []*finder.Finder{f, h.Words} {
		if n, err := x.Many(); n != places || err != nil {
			h.t.Errorf("Many() = %d, %v, want %d", n, err, places)
		}
	}
}

// wholeIndex fails, unless an index finds just these rows' values; its Sum.
func (h *house) wholeIndex(name, column string, l []Row, i int) int {
	h.t.Helper()
	sum := 0
	h.ranged(name, column, nil, nil, between(l, i, nil, nil)...)
	for _, r := range l {
		v := r.Values[i]
		sum += 11 + keyed(v) + 2
		h.ranged(name, column, &v, &v, between(l, i, &v, &v)...)
		h.ranged(name, column, &v, nil, between(l, i, &v, nil)...)
		h.ranged(name, column, nil, &v, between(l, i, nil, &v)...)
	}
	return sum
}

// between are the numbers of those rows whose value is between two, by the promise alone.
func between(l []Row, i int, low, high *api.Value) (want []int) {
	for _, r := range l {
		v := r.Values[i]
		if v.Kind == api.Null || low != nil && value.Compare(v, *low) < 0 || high != nil && value.Compare(v, *high) > 0 {
			continue
		}
		want = append(want, r.Id)
	}
	return want
}

// wholeWords fails, unless a finder has just these words under a name; how many places they have.
func wholeWords(t *testing.T, f *finder.Finder, name string, want map[string][]api.Place) (places int) {
	t.Helper()
	l, err := f.Begin(name, "")
	told(t, "Begin", err, nil)
	if len(l) != len(want) {
		t.Errorf("Begin(%q) = %q, want those of %v", name, l, want)
	}
	for w, there := range want {
		if got, err := f.Places(name, w); err != nil || !slices.Equal(got, there) {
			t.Errorf("Places(%q, %q) = %v, %v, want %v", name, w, got, err, there)
		}
		places += len(there)
	}
	return places
}

// keyed is how many bytes values are written in.
func keyed(l ...api.Value) (n int) {
	for _, v := range l {
		n += []int{1, 9, 2 + len(v.Text)}[v.Kind]
	}
	return n
}
