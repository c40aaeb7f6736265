package base

import (
	"fmt"
	"slices"
	"strings"
	"testing"

	"concordance/api"
	"concordance/disk"
	"concordance/exec"
	"concordance/pager"
	"concordance/parse"
	"concordance/store"
)

// die: numbers that look drawn, the same each time.
type die uint64

func (d *die) below(n int) int {
	*d = *d*6364136223846793005 + 1442695040888963407
	return int(uint64(*d>>33) % uint64(n))
}

// pick is one of these.
func (d *die) pick(l ...string) string { return l[d.below(len(l))] }

// some are a few, with a comma between.
func (d *die) some(most int, one func() string) string {
	l := []string{one()}
	for range d.below(most) {
		l = append(l, one())
	}
	return strings.Join(l, ", ")
}

// condition is one, of columns that each table has.
func (d *die) condition() string {
	return d.pick("a = "+d.pick("1", "2", "3", "null"), "a > 2", "b match '"+d.pick("cat", "dog", "c*", "cat dog", "(")+"'", "b is null", "a + 1 < 4 or b = 'cats'", "b", "x = 1", "a < 3 and not b match 'owl'")
}

// statement is any.
func (d *die) statement() string {
	name := d.pick("t", "t", "t", "u", "u", "v")
	where := d.pick("", " where "+d.condition(), " where "+d.condition(), " where "+d.condition())
	switch d.below(20) {
	case 0, 1:
		return "create table " + name + d.pick(" (a int, b text words)", " (a int not null, b text words)", " (b text, a int)", " (a int, b text words, a int)")
	case 2:
		return "create index on " + name + " (" + d.pick("a", "b", "x") + ")"
	case 3:
		return "drop table " + name
	case 4, 5, 6, 7, 8:
		return "insert into " + name + " values " + d.some(5, func() string {
			return d.pick("(1, 'cats')", "(2, 'dogs and cats')", "(3, null)", "(1 + 4, 'owls')", "(2, 'cats')", "(4, '')", d.pick("(null, 'cows')", "(3, 3)", "('x', 1)", "(1)", "('cats', 7)"))
		})
	case 9:
		return "delete from " + name + where
	case 10, 11:
		return "update " + name + " set " + d.pick("a = a + 1", "b = 'cats and dogs'", "a = a - 1, b = null", "b = a", "a = null", "a = 1, a = 2") + where
	case 12, 13:
		return d.pick("begin", "begin", "commit", "rollback")
	case 14:
		return d.pick("begin", "commit", "select from t", "insert into t", "", "rollback")
	}
	return "select " + d.pick("*", "a, b", "count(*), max(b)", "b", "sum(a)") + " from " + name + where + d.pick("", " order by a desc", " order by rank", " limit 2")
}

// model is a base by its promises alone: statements that were done. What it has is what a new store has in which all of them were done.
type model struct {
	t                *testing.T
	committed, since []string
	inside, down     bool
	done             int
	pager            *pager.Pager
	store            *store.Store
}

// replay lets all that was done be done anew, on a disk of its own.
func (m *model) replay() {
	m.t.Helper()
	var err error
	m.pager, err = pager.Open(&disk.Disk{})
	told(m.t, "Open", err, nil)
	m.store, err = store.Over(m.pager)
	told(m.t, "Over", err, nil)
	for _, s := range slices.Concat(m.committed, m.since) {
		if _, err := m.run(statement(m.t, s)); err != nil {
			m.t.Fatalf("%s: %v", s, err)
		}
	}
}

// run does a statement in the model's store.
func (m *model) run(x api.Statement) (a Answer, err error) {
	switch x.Kind {
	case api.Create:
		err = m.store.Catalog.Create(api.Table{Name: x.Table, Columns: x.Columns})
	case api.Index:
		err = m.store.Index(x.Table, x.Name)
	case api.Drop:
		err = m.store.Drop(x.Table)
	case api.Insert:
		a.Count, err = exec.Insert(m.store, x)
	case api.Delete:
		a.Count, err = exec.Delete(m.store, x)
	case api.Update:
		a.Count, err = exec.Update(m.store, x)
	case api.Select:
		a.Rows, err = exec.Select(m.store, x)
	}
	return a, err
}

// do is what a statement must tell, if the power stays on.
func (m *model) do(s string, x api.Statement) (Answer, error) {
	switch {
	case m.down, x.Kind == api.Begin && m.inside, x.Kind == api.Commit && !m.inside, x.Kind == api.Rollback && !m.inside:
		return Answer{}, api.ErrState
	case x.Kind == api.Begin:
		m.inside = true
		return Answer{}, nil
	case x.Kind == api.Commit:
		m.inside = false
		m.committed, m.since = append(m.committed, m.since...), nil
		return Answer{}, nil
	case x.Kind == api.Rollback:
		m.inside, m.since = false, nil
		m.replay()
		return Answer{}, nil
	}
	a, err := m.run(x)
	if err != nil {
		// Nothing of it is there.
		m.replay()
		return Answer{}, err
	}
	if x.Kind == api.Select {
		return a, nil
	}
	m.done++
	if m.inside {
		m.since = append(m.since, s)
	} else {
		m.committed = append(m.committed, s)
	}
	return a, nil
}

// walk is a base, its disk, and its model, on the way through statements.
type walk struct {
	t     *testing.T
	dice  die
	disk  *disk.Disk
	base  *Base
	model model
	ahead []string // what was committed ahead of that of which ErrDevice was told
	trace string
	met   map[string]int // how often what was told, or found behind a power cut
}

// agrees fails, unless the base is as its model is.
func (w *walk) agrees(what string) {
	w.t.Helper()
	m, b := &w.model, w.base
	if b.Down() != m.down || b.Inside() != m.inside || b.Done() != m.done {
		w.t.Fatalf("%s%s: Down() = %v, Inside() = %v, Done() = %d, want %v, %v, %d", w.trace, what, b.Down(), b.Inside(), b.Done(), m.down, m.inside, m.done)
	}
	if !m.down && pairs(w.t, b.pager) != pairs(w.t, m.pager) {
		w.t.Fatalf("%s%s: it has %s want %s", w.trace, what, pairs(w.t, b.pager), pairs(w.t, m.pager))
	}
}

// open opens the disk anew, with power: of what ErrDevice was told of there is all, or nothing.
func (w *walk) open() {
	w.t.Helper()
	w.disk.Cut(-1, 0)
	b, err := Open(w.disk)
	told(w.t, "Open", err, nil)
	w.base = b
	was := w.model
	w.model = model{t: w.t, committed: slices.Clone(was.committed)}
	w.model.replay()
	if was.down && pairs(w.t, b.pager) != pairs(w.t, w.model.pager) {
		w.met["nothing"]++
		w.model.committed = slices.Clone(w.ahead)
		w.model.replay()
	} else if was.down {
		w.met["all"]++
	}
	w.agrees("opened anew")
}

// step says one thing to both, perhaps without power.
func (w *walk) step() {
	w.t.Helper()
	s := w.dice.statement()
	if w.dice.below(25) == 0 {
		writes, torn := w.dice.below(8), w.dice.below(api.PageSize+1)
		w.disk.Cut(writes, torn)
		w.trace += fmt.Sprintf("cut %d %d; ", writes, torn)
	}
	m := &w.model
	ahead := slices.Clone(m.committed)
	a, err := w.base.Say(s)
	x, wrong := parse.Parse(s)
	want, e := Answer{}, wrong
	if wrong == nil {
		want, e = m.do(s, x)
	}
	if err == api.ErrDevice {
		if e != nil || w.disk.On() || slices.Equal(ahead, m.committed) && x.Kind != api.Commit {
			w.t.Fatalf("%s%s: %v, want %v", w.trace, s, err, e)
		}
		m.down, w.ahead, want, e = true, ahead, Answer{}, api.ErrDevice
	}
	got, must := written(x.Kind, a, err), written(x.Kind, want, e)
	w.met[strings.Join(strings.Fields(got + " .")[:2], " ")]++
	if got != must {
		w.t.Fatalf("%s%s: %s, want %s", w.trace, s, got, must)
	}
	w.agrees(s)
	w.trace += s + "; "
	if m.down && w.dice.below(3) == 0 || w.dice.below(30) == 0 {
		w.trace += "open; "
		w.open()
	}
}

// TestModel: 16.1, 16.2: many statements, each held against a model that has nothing but the promises; the power goes off now and then.
func TestModel(t *testing.T) {
	met := map[string]int{}
	for seed := range 150 {
		w := &walk{t: t, dice: die(seed), disk: &disk.Disk{}, met: met}
		w.model.t = t
		w.open()
		for range 60 {
			w.step()
		}
	}
	for _, s := range []string{"all", "nothing", "done 0", "done 2", "rows .", "rows 1", "error 1", "error 3", "error 5", "error 6", "error 7", "error 9", "error 13", "error 14"} {
		if met[s] == 0 {
			t.Errorf("%s never came: %v", s, met)
		}
	}
}
