package finder

import (
	"fmt"
	"slices"
	"strings"
	"testing"

	"concordance/api"
	"concordance/disk"
	"concordance/word"
)

// die: numbers that look drawn, the same each time.
type die uint64

func (d *die) below(n int) int {
	*d = *d*6364136223846793005 + 1442695040888963407
	return int(uint64(*d>>33) % uint64(n))
}

// spot is a place, with its name and word.
type spot struct {
	name, word string
	row, at    int
}

// plain is a finder by its promise alone: a list of all places.
type plain []spot

// wrong is what the arguments alone tell.
func wrong(name string, row int) error {
	switch {
	case len(name) < 1 || len(name) > 16 || strings.IndexByte(name, 0) >= 0:
		return api.ErrArg
	case row < 1 || row > 1<<30:
		return api.ErrRange
	}
	return nil
}

func (l *plain) Add(name string, row int, text string) error {
	if err := wrong(name, row); err != nil {
		return err
	}
	if len(text) > 40 {
		return api.ErrArg
	}
	var m plain
	for i, w := range word.Split(text) {
		for _, s := range *l {
			if s.name == name && s.word == w && s.row == row {
				return api.ErrTwice
			}
		}
		m = append(m, spot{name, w, row, i})
	}
	if len(*l)+len(m) > 500 {
		return api.ErrFull
	}
	*l = append(*l, m...)
	return nil
}

func (l *plain) Drop(name string, row int, text string) error {
	if err := wrong(name, row); err != nil {
		return err
	}
	words := word.Split(text)
	*l = slices.DeleteFunc(slices.Clone(*l), func(s spot) bool {
		return s.name == name && s.row == row && slices.Contains(words, s.word)
	})
	return nil
}

func (l plain) Places(name, w string) (m []api.Place) {
	for _, s := range l {
		if s.name == name && s.word == w {
			m = append(m, api.Place{Row: s.row, At: s.at})
		}
	}
	slices.SortFunc(m, func(a, b api.Place) int { return (a.Row-b.Row)*100 + a.At - b.At })
	return m
}

func (l plain) Begin(name, begin string) (m []string) {
	for _, s := range l {
		if s.name == name && strings.HasPrefix(s.word, begin) {
			m = append(m, s.word)
		}
	}
	slices.Sort(m)
	return slices.Compact(m)
}

// pick is one of these.
func (d *die) pick(l ...string) string { return l[d.below(len(l))] }

// name is one of few, seldom one that may not be.
func (d *die) name() string {
	if d.below(30) == 0 {
		return d.pick("", "n\x00", strings.Repeat("n", 17))
	}
	return d.pick("n", "n", "nn", "m", "n\xff")
}

// row is one of few, or far on, seldom one that may not be.
func (d *die) row(few int) int {
	switch d.below(30) {
	case 0:
		return -d.below(2)
	case 1:
		return 1<<30 - 2 + d.below(4)
	case 2:
		return 1 + d.below(1<<d.below(31))
	}
	return 1 + d.below(few)
}

// text is one of few words, seldom a long one.
func (d *die) text(most int) string {
	s := ""
	for range d.below(most + 1) {
		s += d.pick("a", "b", "cat", "Cats", "catalog", "c", "jumping", "\xff", "x1", fmt.Sprint("w", d.below(40))) + d.pick(" ", " ", "-", ". ", "\x00")
	}
	return s
}

// TestModel: 7.1: many steps, each held against a plain list; there are few rows, so that much is there twice, or many, so that it is full.
func TestModel(t *testing.T) {
	for seed := range 24 {
		d := die(seed)
		f := over(t, opened(t, &disk.Disk{}))
		var l plain
		few, full, adds := []int{3, 20, 300, 5000}[seed%4], 0, 2+seed/4%3*4
		for n := range 700 {
			name, row, text := d.name(), d.row(few), d.text([]int{1, 4, 9, 14}[seed/3%4])
			if d.below(adds) > 0 {
				err := l.Add(name, row, text)
				told(t, fmt.Sprintf("Add(%q, %d, %q)", name, row, text), f.Add(name, row, text), err)
				if err == api.ErrFull {
					full++
				}
			} else {
				if d.below(2) == 0 && len(l) > 0 {
					s := l[d.below(len(l))]
					name, row, text = s.name, s.row, s.word+" "+text
				}
				told(t, fmt.Sprintf("Drop(%q, %d, %q)", name, row, text), f.Drop(name, row, text), l.Drop(name, row, text))
			}
			same(t, &d, f, l)
			if t.Failed() {
				t.Fatalf("seed %d, step %d", seed, n)
			}
		}
		if few == 5000 && adds > 2 && full == 0 {
			t.Errorf("seed %d: it was never full", seed)
		}
	}
}

// same holds what a finder tells against a plain list.
func same(t *testing.T, d *die, f *Finder, l plain) {
	t.Helper()
	many(t, f, len(l))
	name := d.name()
	for _, w := range []string{"a", "cat", d.pick("catalog", "c", "jump", "\xff", "x1", "w7", "")} {
		if got, err := f.Places(name, w); err != nil || !slices.Equal(got, l.Places(name, w)) {
			t.Errorf("Places(%q, %q) = %v, %v, want %v", name, w, got, err, l.Places(name, w))
		}
	}
	s := d.pick("", "c", "cat", "w1", "w", "\xff", "cat\x00")
	if got, err := f.Begin(name, s); err != nil || !slices.Equal(got, l.Begin(name, s)) {
		t.Errorf("Begin(%q, %q) = %q, %v, want %q", name, s, got, err, l.Begin(name, s))
	}
}
