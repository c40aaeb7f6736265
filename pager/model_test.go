package pager

import (
	"fmt"
	"maps"
	"testing"

	"concordance/api"
	"concordance/disk"
)

// die: numbers that look drawn, the same each time.
type die uint64

func (d *die) below(n int) int {
	*d = *d*6364136223846793005 + 1442695040888963407
	return int(uint64(*d>>33) % uint64(n))
}

// plain is a pager's content by its promise alone.
type plain struct {
	pages map[int]string
	roots [api.Roots][2]int
}

func (a plain) copied() plain {
	a.pages = maps.Clone(a.pages)
	return a
}

// note is what a Mark stands for: when it was taken, of which pager, and what there was.
type note struct {
	mark    Mark
	commits int
	all     plain
}

// model is a pager by its promise alone; it tells what each call answers.
type model struct {
	now, last plain
	commits   int
	down      bool
}

func (m *model) reach(k int) error {
	if _, ok := m.now.pages[k]; !ok {
		return api.ErrRange
	}
	return m.state()
}

func (m *model) state() error {
	if m.down {
		return api.ErrState
	}
	return nil
}

func (m *model) Write(k int, s string) error {
	err := m.reach(k)
	if err == nil && len(s) != size {
		err = api.ErrArg
	}
	if err == nil {
		m.now.pages[k] = s
	}
	return err
}

func (m *model) Free(k int) error {
	err := m.reach(k)
	if err == nil {
		delete(m.now.pages, k)
	}
	return err
}

func (m *model) Alloc() (int, error) {
	if m.down {
		return 0, api.ErrState
	}
	for k := 1; k <= most; k++ {
		if _, ok := m.now.pages[k]; !ok {
			m.now.pages[k] = noughts()
			return k, nil
		}
	}
	return 0, api.ErrFull
}

func (m *model) SetRoot(i, page, note int) error {
	if i < 0 || i >= api.Roots || page < 0 || page > most || note < 0 || note > 65535 {
		return api.ErrRange
	}
	if m.down {
		return api.ErrState
	}
	m.now.roots[i] = [2]int{page, note}
	return nil
}

func (m *model) Back(n note) error {
	if m.down {
		return api.ErrState
	}
	if n.commits != m.commits {
		return api.ErrArg
	}
	m.now = n.all.copied()
	return nil
}

func (m *model) Rollback() error {
	if m.down {
		return api.ErrState
	}
	m.now = m.last.copied()
	return nil
}

// agrees fails, unless a pager tells what the model does.
func (m *model) agrees(t *testing.T, p *Pager) {
	t.Helper()
	if p.Down() != m.down {
		t.Fatalf("Down() = %v", p.Down())
	}
	if p.Used() != len(m.now.pages)+1 {
		t.Fatalf("Used() = %d, want %d", p.Used(), len(m.now.pages)+1)
	}
	for k := -1; k < 24; k++ {
		want := m.reach(k)
		got, err := p.Read(k)
		if err != want || want == nil && got != m.now.pages[k] || want != nil && got != "" {
			t.Fatalf("Read(%d) = %s, %v, want %s, %v", k, brief(got), err, brief(m.now.pages[k]), want)
		}
	}
	for i, want := range m.now.roots {
		if page, note, err := p.Root(i); [2]int{page, note} != want || err != nil {
			t.Fatalf("Root(%d) = %d, %d, %v, want %v", i, page, note, err, want)
		}
	}
}

// walk is a pager, its disk, and its model, on the way through steps.
type walk struct {
	t     *testing.T
	dice  die
	disk  *disk.Disk
	pager *Pager
	model model
	notes []note
}

// anew opens the disk with power: behind a Commit that told ErrDevice it has one of two.
func (w *walk) anew() {
	w.t.Helper()
	w.disk.Cut(-1, 0)
	w.pager = opened(w.t, w.disk)
	w.notes = []note{{commits: -1}}
	if w.model.down && w.holds(w.model.now) {
		w.model.last = w.model.now
	}
	w.model = model{last: w.model.last.copied(), now: w.model.last.copied(), commits: w.model.commits + 1}
}

// holds says whether the pager has all that.
func (w *walk) holds(a plain) bool {
	if w.pager.Used() != len(a.pages)+1 {
		return false
	}
	for k, s := range a.pages {
		if got, _ := w.pager.Read(k); got != s {
			return false
		}
	}
	for i, want := range a.roots {
		if page, note, _ := w.pager.Root(i); [2]int{page, note} != want {
			return false
		}
	}
	return true
}

// commit holds a Commit against the model: with power left it tells no error.
func (w *walk) commit() {
	w.t.Helper()
	err := w.pager.Commit()
	switch {
	case w.model.down:
		told(w.t, "Commit", err, api.ErrState)
	case err == nil:
		w.model.commits++
		w.model.last = w.model.now.copied()
	default:
		told(w.t, "Commit", err, api.ErrDevice)
		if w.disk.On() {
			w.t.Error("ErrDevice, and the power is on")
		}
		w.model.down = true
	}
}

// step does one thing to both.
func (w *walk) step() string {
	w.t.Helper()
	what, k, n := w.dice.below(18), w.dice.below(12)-1, w.dice.below(100000)
	p, m := w.pager, &w.model
	said := fmt.Sprint(what, " ", k, " ", n)
	switch what {
	case 0, 1, 2, 3:
		got, err := p.Alloc()
		want, e := m.Alloc()
		if got != want || err != e {
			w.t.Errorf("%s: Alloc() = %d, %v, want %d, %v", said, got, err, want, e)
		}
	case 4, 5:
		told(w.t, said+": Free", p.Free(k), m.Free(k))
	case 6, 7, 8:
		s := mixed(n)
		if n%10 == 0 {
			s = s[:n%size]
		}
		told(w.t, said+": Write", p.Write(k, s), m.Write(k, s))
	case 9, 10:
		told(w.t, said+": SetRoot", p.SetRoot(k, n%2100, n), m.SetRoot(k, n%2100, n))
	case 11, 12:
		w.commit()
	case 13:
		told(w.t, said+": Rollback", p.Rollback(), m.Rollback())
	case 14:
		w.notes = append(w.notes, note{p.Mark(), m.commits, m.now.copied()})
	case 15:
		one := w.notes[n%len(w.notes)]
		told(w.t, said+": Back", p.Back(one.mark), m.Back(one))
	case 16:
		w.disk.Cut(n%8, n/8%(size+2))
	default:
		w.anew()
	}
	return said
}

// TestModel: 3.1, 3.2, 3.3: many steps, each held against a model that has nothing but the promises.
func TestModel(t *testing.T) {
	for seed := range 60 {
		w := &walk{t: t, dice: die(seed), disk: &disk.Disk{}}
		w.model.last.pages = map[int]string{}
		w.anew()
		trace := ""
		for range 300 {
			trace += w.step() + "; "
			w.model.agrees(t, w.pager)
			if t.Failed() {
				t.Fatalf("seed %d: %s", seed, trace)
			}
		}
	}
}
