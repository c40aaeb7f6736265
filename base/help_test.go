package base

import (
	"fmt"
	"strings"
	"testing"

	"concordance/api"
	"concordance/disk"
	"concordance/pager"
	"concordance/parse"
	"concordance/plain"
	"concordance/tree"
)

// house is a base, its disk, and what it must have.
type house struct {
	*Base
	t      testing.TB
	disk   *disk.Disk
	inside bool
	done   int
	last   string // all, as it was committed last
}

// opened is a base on a disk.
func opened(t testing.TB, d *disk.Disk) *house {
	t.Helper()
	b, err := Open(d)
	if err != nil || b == nil {
		t.Fatalf("Open: %v, %v", b, err)
	}
	h := &house{Base: b, t: t, disk: d, last: all(t, b.pager)}
	h.stands("Open")
	return h
}

// built is a base on an empty disk to which this was said, a line each.
func built(t testing.TB, text string) *house {
	t.Helper()
	h := opened(t, &disk.Disk{})
	for _, s := range lines(text) {
		if got := h.say(s); !strings.HasPrefix(got, "done") {
			t.Fatalf("%s: %s", s, got)
		}
	}
	return h
}

// anew is a base on a copy of a disk, with power, as if it were opened anew.
func anew(t testing.TB, d *disk.Disk) *house {
	t.Helper()
	c := *d
	c.Cut(-1, 0)
	return opened(t, &c)
}

// lines are those of a text that have something.
func lines(s string) (l []string) {
	for _, at := range strings.Split(s, "\n") {
		if at = strings.TrimSpace(at); at != "" {
			l = append(l, at)
		}
	}
	return l
}

// statement is one, as Parse tells it.
func statement(t testing.TB, s string) api.Statement {
	t.Helper()
	x, err := parse.Parse(s)
	if err != nil {
		t.Fatalf("Parse(%q): %v", s, err)
	}
	return x
}

// written is what a statement of that kind tells, as a text.
func written(kind int, a Answer, err error) string {
	if err != nil {
		e, at := plain.Place(err)
		s := fmt.Sprint("error ", int(e))
		if at >= 0 {
			s += fmt.Sprint(" at ", at)
		}
		if a.Rows != nil || a.Count != 0 {
			s += fmt.Sprint(", and ", a)
		}
		return s
	}
	if kind != api.Select {
		return strings.TrimSpace(fmt.Sprint("done ", a.Count, " ", valued(a.Rows)))
	}
	s := strings.TrimSpace("rows " + valued(a.Rows))
	if a.Count != 0 {
		s += fmt.Sprint(", and ", a.Count)
	}
	return s
}

// valued is rows as a text.
func valued(rows [][]api.Value) string {
	var l []string
	for _, row := range rows {
		var m []string
		for _, v := range row {
			m = append(m, parse.Literal(v))
		}
		l = append(l, strings.Join(m, " "))
	}
	return strings.Join(l, ", ")
}

// all is all that a pager has: its roots, and its pages in use. So it has each table, row, index and word, and where it lies.
func all(t testing.TB, p *pager.Pager) string {
	t.Helper()
	var b strings.Builder
	for i := range api.Roots {
		page, note, err := p.Root(i)
		fmt.Fprintln(&b, page, note, err)
	}
	for k, left := 1, p.Used()-1; left > 0; k++ {
		s, err := p.Read(k)
		if err == nil {
			left--
			fmt.Fprintln(&b, k, s)
		} else if err != api.ErrRange {
			t.Fatalf("Read(%d): %v", k, err)
		}
	}
	return b.String()
}

// pairs is all that stands in a pager's trees, wherever it lies.
func pairs(t testing.TB, p *pager.Pager) string {
	t.Helper()
	s := ""
	for root := range api.Roots {
		r, err := tree.At(p, root)
		if err != nil {
			t.Fatalf("At(%d): %v", root, err)
		}
		l, err := r.Walk("", -1)
		if err != nil {
			t.Fatalf("Walk: %v", err)
		}
		s += fmt.Sprintf("%d: %q\n", root, l)
	}
	return s
}

// committed is all that a pager has that is opened anew.
func committed(t testing.TB, d *disk.Disk) string {
	t.Helper()
	c := *d
	c.Cut(-1, 0)
	p, err := pager.Open(&c)
	if err != nil {
		t.Fatalf("Open: %v", err)
	}
	return all(t, p)
}

// stands fails, unless the base, which is not Down, is Inside, and has Done so many, as is promised; and on the disk lies what was committed last, and nothing else.
func (h *house) stands(what string) {
	h.t.Helper()
	if h.Down() || h.Inside() != h.inside || h.Done() != h.done {
		h.t.Errorf("%s: Down() = %v, Inside() = %v, want %v, Done() = %d, want %d", what, h.Down(), h.Inside(), h.inside, h.Done(), h.done)
	}
	if h.Store() == nil || h.Store() != h.store {
		h.t.Errorf("%s: Store() = %v", what, h.Store())
	}
	if committed(h.t, h.disk) != h.last {
		h.t.Errorf("%s: on the disk lies something else than what was committed last", what)
	}
}

// say says a text: what is told, as a text. It fails, unless all stands behind it as it must, whatever was told.
func (h *house) say(s string) string {
	h.t.Helper()
	ahead := all(h.t, h.pager)
	a, err := h.Say(s)
	x, wrong := parse.Parse(s)
	if wrong != nil && err == nil {
		h.t.Errorf("%s: Parse tells %v", s, wrong)
	}
	now := all(h.t, h.pager)
	changes := x.Kind >= api.Create && x.Kind <= api.Update
	switch {
	case err != nil || x.Kind == api.Select:
		if now != ahead {
			h.t.Errorf("%s: something is other than it was", s)
		}
	case x.Kind == api.Begin:
		h.inside = true
	case x.Kind == api.Rollback:
		h.inside = false
		if now != h.last {
			h.t.Errorf("%s: something is other than it was committed last", s)
		}
	case x.Kind == api.Commit:
		h.inside = false
		h.last = ahead
	case changes:
		h.done++
		if !h.inside {
			h.last = now
		}
	}
	h.stands(s)
	return written(x.Kind, a, err)
}

// says fails, unless statements tell what stands behind => in their lines.
func (h *house) says(text string) {
	h.t.Helper()
	for _, at := range lines(text) {
		s, want, found := strings.Cut(at, " => ")
		if !found {
			h.t.Fatalf("%s: nothing is wanted", at)
		}
		if got := h.say(strings.TrimSpace(s)); got != strings.TrimSpace(want) {
			h.t.Errorf("%s: %s, want %s", strings.TrimSpace(s), got, strings.TrimSpace(want))
		}
	}
}

// told fails, unless an error is this one, as it is.
func told(t testing.TB, what string, err, want error) {
	t.Helper()
	if err != want {
		t.Errorf("%s: %v, want %v", what, err, want)
	}
}
