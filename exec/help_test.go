package exec

import (
	"fmt"
	"slices"
	"strings"
	"testing"

	"concordance/api"
	"concordance/disk"
	"concordance/pager"
	"concordance/parse"
	"concordance/plain"
	"concordance/store"
)

// house is a store, and what it lies over.
type house struct {
	*store.Store
	t     testing.TB
	disk  *disk.Disk
	pager *pager.Pager
}

// empty is a store over an empty disk.
func empty(t testing.TB) *house {
	t.Helper()
	d := &disk.Disk{}
	p, err := pager.Open(d)
	if err != nil {
		t.Fatalf("Open: %v", err)
	}
	s, err := store.Over(p)
	if err != nil {
		t.Fatalf("Over: %v", err)
	}
	return &house{s, t, d, p}
}

// built is a store in which these statements were done.
func built(t testing.TB, l ...string) *house {
	t.Helper()
	h := empty(t)
	for _, s := range l {
		if got := h.do(s); !strings.HasPrefix(got, "done") {
			t.Fatalf("%s: %s", s, got)
		}
	}
	return h
}

// done is how many rows, as a text, or an error, and its place, if it has one.
func done(n int, err error) string {
	if err == nil {
		return fmt.Sprint("done ", n)
	}
	e, at := plain.Place(err)
	s := fmt.Sprint("error ", int(e))
	if at >= 0 {
		s += fmt.Sprint(" at ", at)
	}
	if n != 0 {
		s += fmt.Sprint(", and ", n)
	}
	return s
}

// written is rows as a text.
func written(rows [][]api.Value, err error) string {
	if err != nil {
		return done(len(rows), err)
	}
	var lines []string
	for _, row := range rows {
		var l []string
		for _, v := range row {
			l = append(l, parse.Literal(v))
		}
		lines = append(lines, strings.Join(l, " "))
	}
	return strings.TrimSpace("rows " + strings.Join(lines, ", "))
}

// statement is one, as Parse tells it.
func statement(t testing.TB, s string) api.Statement {
	t.Helper()
	x, err := parse.Parse(s)
	if err != nil {
		t.Fatalf("Parse(%q): %v", s, err)
	}
	return x
}

// run does a statement: what it tells, as a text.
func (h *house) run(x api.Statement) string {
	switch x.Kind {
	case api.Create:
		return done(0, h.Catalog.Create(api.Table{Name: x.Table, Columns: x.Columns}))
	case api.Index:
		return done(0, h.Store.Index(x.Table, x.Name))
	case api.Drop:
		return done(0, h.Store.Drop(x.Table))
	case api.Insert:
		return done(Insert(h.Store, x))
	case api.Delete:
		return done(Delete(h.Store, x))
	case api.Update:
		return done(Update(h.Store, x))
	}
	return written(Select(h.Store, x))
}

// do does a statement: what it tells, as a text.
func (h *house) do(s string) string {
	h.t.Helper()
	return h.run(statement(h.t, s))
}

// tells fails, unless statements tell this. What is told of an error is taken back, and then all is as it was.
func (h *house) tells(l ...[2]string) {
	h.t.Helper()
	for _, c := range l {
		ahead, m := h.all(), h.pager.Mark()
		got := h.do(c[0])
		if got != c[1] {
			h.t.Errorf("%s: %s, want %s", c[0], got, c[1])
		}
		if strings.HasPrefix(got, "error") {
			if err := h.pager.Back(m); err != nil {
				h.t.Errorf("Back: %v", err)
			}
		}
		if strings.HasPrefix(got, "error") || strings.HasPrefix(got, "rows") {
			h.unchanged(c[0], ahead)
		}
	}
}

// all is all that there is: the roots, and the pages in use.
func (h *house) all() string {
	var b strings.Builder
	for i := range api.Roots {
		page, note, err := h.pager.Root(i)
		fmt.Fprintln(&b, page, note, err)
	}
	for k := range api.MaxPages {
		if s, err := h.pager.Read(k); err == nil {
			fmt.Fprintf(&b, "%d %x\n", k, s)
		}
	}
	return b.String()
}

// unchanged fails, unless all is as it was.
func (h *house) unchanged(what, want string) {
	h.t.Helper()
	if h.all() != want {
		h.t.Errorf("%s: something is other than it was", what)
	}
}

// has fails, unless a table has just these rows: each its number, and its values.
func (h *house) has(name string, want ...string) {
	h.t.Helper()
	rows, err := h.Scan(name)
	var got []string
	for _, r := range rows {
		got = append(got, fmt.Sprint(r.Id, " ", written([][]api.Value{r.Values}, nil)))
	}
	for i := range want {
		n, values, _ := strings.Cut(want[i], " ")
		want[i] = n + " rows " + values
	}
	if err != nil || !slices.Equal(got, want) {
		h.t.Errorf("%s has %q, %v, want %q", name, got, err, want)
	}
}

// lines are statements, or what they tell, from a text with a line each.
func lines(s string) (l []string) {
	for _, at := range strings.Split(s, "\n") {
		if at = strings.TrimSpace(at); at != "" {
			l = append(l, at)
		}
	}
	return l
}

// says fails, unless statements tell what stands behind => in their lines.
func (h *house) says(text string) {
	h.t.Helper()
	for _, at := range lines(text) {
		s, want, found := strings.Cut(at, " => ")
		if !found {
			h.t.Fatalf("%s: nothing is wanted", at)
		}
		h.tells([2]string{strings.TrimSpace(s), strings.TrimSpace(want)})
	}
}
