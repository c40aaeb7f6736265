package finder

import (
	"fmt"
	"math"
	"slices"
	"strings"
	"testing"
	"unsafe"

	"concordance/api"
	"concordance/disk"
	"concordance/pager"
	"concordance/tree"
)

// opened is a pager of a disk that has power.
func opened(t *testing.T, d *disk.Disk) *pager.Pager {
	t.Helper()
	p, err := pager.Open(d)
	if err != nil || p == nil {
		t.Fatalf("Open: %v, %v", p, err)
	}
	return p
}

// over is a finder over the tree at root 3 of a pager.
func over(t *testing.T, p *pager.Pager) *Finder {
	t.Helper()
	r, err := tree.At(p, 3)
	if err != nil {
		t.Fatalf("At: %v", err)
	}
	f, err := Over(r)
	if err != nil || f == nil {
		t.Fatalf("Over: %v, %v", f, err)
	}
	return f
}

// empty is a finder over an empty tree.
func empty(t *testing.T) *Finder {
	t.Helper()
	return over(t, opened(t, &disk.Disk{}))
}

// told fails, unless an error is this one, as it is.
func told(t *testing.T, what string, err, want error) {
	t.Helper()
	if err != want {
		t.Errorf("%s: %v, want %v", what, err, want)
	}
}

// add notes a text.
func add(t *testing.T, f *Finder, name string, row int, text string) {
	t.Helper()
	told(t, fmt.Sprintf("Add(%q, %d, %q)", name, row, text), f.Add(name, row, text), nil)
}

// drop forgets a text.
func drop(t *testing.T, f *Finder, name string, row int, text string) {
	t.Helper()
	told(t, fmt.Sprintf("Drop(%q, %d, %.60q)", name, row, text), f.Drop(name, row, text), nil)
}

// many fails, unless there are so many places.
func many(t *testing.T, f *Finder, want int) {
	t.Helper()
	if got, err := f.Many(); got != want || err != nil {
		t.Errorf("Many() = %d, %v, want %d", got, err, want)
	}
}

// stands fails, unless a word stands just there: rows, and places in them, by turns.
func stands(t *testing.T, f *Finder, name, w string, want ...int) {
	t.Helper()
	var l []api.Place
	for i := 0; i < len(want); i += 2 {
		l = append(l, api.Place{Row: want[i], At: want[i+1]})
	}
	if got, err := f.Places(name, w); !slices.Equal(got, l) || err != nil {
		t.Errorf("Places(%.40q, %.40q) = %v, %v, want %v", name, w, got, err, l)
	}
}

// begins fails, unless just these words begin so.
func begins(t *testing.T, f *Finder, name, s string, want ...string) {
	t.Helper()
	if got, err := f.Begin(name, s); !slices.Equal(got, want) || err != nil {
		t.Errorf("Begin(%.40q, %.40q) = %.40q, %v, want %.40q", name, s, got, err, want)
	}
}

// all is all that a finder tells of these names.
func all(t *testing.T, f *Finder, names ...string) string {
	t.Helper()
	n, err := f.Many()
	told(t, "Many", err, nil)
	s := fmt.Sprint(n, ":")
	for _, name := range names {
		words, err := f.Begin(name, "")
		told(t, "Begin", err, nil)
		for _, w := range words {
			l, err := f.Places(name, w)
			told(t, "Places", err, nil)
			s += fmt.Sprintf(" %q %q %v", name, w, l)
		}
	}
	return s
}

// TestOverMissing: 7.1, P2: without a tree ErrMissing, and no finder.
func TestOverMissing(t *testing.T) {
	if f, err := Over(nil); f != nil || err != api.ErrMissing {
		t.Errorf("Over(nil) = %v, %v", f, err)
	}
}

// TestEmpty: 7.1: over an empty tree there is nothing, and nothing can be forgotten.
func TestEmpty(t *testing.T) {
	f := empty(t)
	many(t, f, 0)
	stands(t, f, "n", "cat")
	stands(t, f, "", "")
	begins(t, f, "n", "")
	begins(t, f, "", "")
	drop(t, f, "n", 1, "cat")
	drop(t, f, "n", 1, "")
	many(t, f, 0)
	if sum := f.tree.Sum(); sum != 0 {
		t.Errorf("%d bytes are left", sum)
	}
}

// TestAdd: 7.1: each word has a place, as the how many-th it stands, under that name alone.
func TestAdd(t *testing.T) {
	f := empty(t)
	add(t, f, "n", 7, "Jumping-foxes!")
	add(t, f, "n", 3, "the foxes are jumping")
	add(t, f, "m", 3, "foxes")
	many(t, f, 7)
	stands(t, f, "n", "jump", 3, 3, 7, 0)
	stands(t, f, "n", "foxe", 3, 1, 7, 1)
	stands(t, f, "n", "the", 3, 0)
	stands(t, f, "n", "are", 3, 2)
	stands(t, f, "m", "foxe", 3, 0)
	stands(t, f, "m", "jump")
	begins(t, f, "n", "", "are", "foxe", "jump", "the")
	begins(t, f, "m", "", "foxe")
}

// TestTextWithoutWords: 7.1: it may be noted, and again, and forgotten: nothing comes of it.
func TestTextWithoutWords(t *testing.T) {
	f := empty(t)
	for _, s := range []string{"", " ", "-.-", "\x00", strings.Repeat("!", api.MaxLetter)} {
		add(t, f, "n", 1, s)
		add(t, f, "n", 1, s)
		drop(t, f, "n", 1, s)
		many(t, f, 0)
		begins(t, f, "n", "")
	}
	add(t, f, "n", 1, "cat")
	add(t, f, "n", 1, " ")
	drop(t, f, "n", 1, " ")
	stands(t, f, "n", "cat", 1, 0)
}

// TestWordTwiceInText: 7.1: a word that comes twice has two places, and its text is none that is noted twice.
func TestWordTwiceInText(t *testing.T) {
	f := empty(t)
	add(t, f, "n", 5, "cat dog Cats cat dog")
	stands(t, f, "n", "cat", 5, 0, 5, 2, 5, 3)
	stands(t, f, "n", "dog", 5, 1, 5, 4)
	begins(t, f, "n", "", "cat", "dog")
	many(t, f, 5)
	add(t, f, "n", 6, strings.Repeat("a ", api.MaxLetter/2))
	var want []int
	for i := range api.MaxLetter / 2 {
		want = append(want, 6, i)
	}
	stands(t, f, "n", "a", want...)
	many(t, f, 25)
	drop(t, f, "n", 5, "cat")
	stands(t, f, "n", "cat")
	many(t, f, 22)
	drop(t, f, "n", 6, "a")
	stands(t, f, "n", "a")
	stands(t, f, "n", "dog", 5, 1, 5, 4)
	many(t, f, 2)
}

// TestTwice: 7.1, P2: a text that has one of its words in that row already is ErrTwice, whichever it is, and none of its words is noted.
func TestTwice(t *testing.T) {
	f := empty(t)
	add(t, f, "n", 5, "cat and dog")
	want := all(t, f, "n")
	for _, s := range []string{
		"cat and dog", "dog and cat", "cat", "and", "DOGS",
		"new words, but cats", "cat ahead of new words", "a new dog c d",
	} {
		told(t, s, f.Add("n", 5, s), api.ErrTwice)
		if got := all(t, f, "n"); got != want {
			t.Fatalf("%q: %s, want %s", s, got, want)
		}
	}
	add(t, f, "n", 5, "catalog an")
	add(t, f, "n", 4, "cat and dog")
	add(t, f, "n", 6, "cat and dog")
	add(t, f, "m", 5, "cat and dog")
	stands(t, f, "n", "cat", 4, 0, 5, 0, 6, 0)
	stands(t, f, "m", "cat", 5, 0)
	stands(t, f, "n", "catalog", 5, 0)
	many(t, f, 14)
}

// TestDrop: 7.1: the words of a text have no place in that row any more; all others stay: other words, rows and names.
func TestDrop(t *testing.T) {
	f := empty(t)
	add(t, f, "n", 5, "cat and dog")
	add(t, f, "n", 6, "dog and cat")
	add(t, f, "m", 5, "cat and dog")
	drop(t, f, "n", 5, "Dogs of catalogs")
	stands(t, f, "n", "cat", 5, 0, 6, 2)
	stands(t, f, "n", "and", 5, 1, 6, 1)
	stands(t, f, "n", "dog", 6, 0)
	stands(t, f, "m", "dog", 5, 2)
	many(t, f, 8)
	drop(t, f, "n", 7, "cat and dog")
	drop(t, f, "nm", 5, "cat and dog")
	drop(t, f, "n", 5, "dog")
	many(t, f, 8)
	drop(t, f, "n", 6, "cat cat cat and dog")
	stands(t, f, "n", "cat", 5, 0)
	stands(t, f, "n", "dog")
	begins(t, f, "n", "", "and", "cat")
	begins(t, f, "m", "", "and", "cat", "dog")
	many(t, f, 5)
}

// TestDropLongText: 7.1: Drop takes a text of any length.
func TestDropLongText(t *testing.T) {
	f := empty(t)
	add(t, f, "n", 5, "cat and dog")
	add(t, f, "n", 6, "cat and dog")
	long := strings.Repeat("other words ", 10000) + strings.Repeat("x", 100000) + " dog cats"
	drop(t, f, "n", 5, long)
	stands(t, f, "n", "cat", 6, 0)
	stands(t, f, "n", "dog", 6, 2)
	stands(t, f, "n", "and", 5, 1, 6, 1)
	many(t, f, 4)
}

// TestAddAndDropAgain: 7.1: a text that was noted and forgotten can be noted again; in between, and at the end, nothing of it is left.
func TestAddAndDropAgain(t *testing.T) {
	f := empty(t)
	for range 5 {
		add(t, f, "n", 5, "cat and dog and fox")
		many(t, f, 5)
		told(t, "Add", f.Add("n", 5, "and"), api.ErrTwice)
		drop(t, f, "n", 5, "cat and dog and fox")
		many(t, f, 0)
		begins(t, f, "n", "")
		stands(t, f, "n", "and")
		if sum := f.tree.Sum(); sum != 0 {
			t.Errorf("%d bytes are left", sum)
		}
	}
	add(t, f, "n", 5, "cat and dog")
	drop(t, f, "n", 5, "and")
	add(t, f, "n", 5, "x and")
	stands(t, f, "n", "and", 5, 1)
	stands(t, f, "n", "x", 5, 0)
	stands(t, f, "n", "cat", 5, 0)
	told(t, "Add", f.Add("n", 5, "x"), api.ErrTwice)
}

// TestWords: 7.1: words are those that Split tells; Places and Begin take a text as it is.
func TestWords(t *testing.T) {
	f := empty(t)
	add(t, f, "n", 1, "LongerThanTwelveLetters parties \xc3\x89t\xc3\xa9")
	stands(t, f, "n", "longerthantw", 1, 0)
	stands(t, f, "n", "party", 1, 1)
	stands(t, f, "n", "\xc3\x89t\xc3\xa9", 1, 2)
	for _, s := range []string{
		"", " ", "LongerThanTw", "longerthantwelveletters", "longerthantwe", "longerthant",
		"parties", "Party", "partys", "part", "\xc3\x89t", "\xc3\xa9t\xc3\xa9", "party ", " party", "longerthantw party",
	} {
		stands(t, f, "n", s)
	}
	begins(t, f, "n", "", "longerthantw", "party", "\xc3\x89t\xc3\xa9")
	begins(t, f, "n", "longerthantw", "longerthantw")
	begins(t, f, "n", "party", "party")
	begins(t, f, "n", "\xc3", "\xc3\x89t\xc3\xa9")
	for _, s := range []string{"longerthantwe", "L", "P", "parties", "arty", " ", "\xa9"} {
		begins(t, f, "n", s)
	}
}

// TestRowsInOrder: 7.1: places are rising, by rows, whatever bytes they have.
func TestRowsInOrder(t *testing.T) {
	f := empty(t)
	rows := []int{1, 2, 9, 10, 99, 127, 128, 255, 256, 257, 511, 512, 65535, 65536, 65537, 1 << 24, 1<<24 + 1, 1<<30 - 1, 1 << 30}
	var want []int
	for _, row := range rows {
		want = append(want, row, 1)
	}
	for i := range rows {
		add(t, f, "n", rows[i*7%len(rows)], "x cat")
	}
	stands(t, f, "n", "cat", want...)
	begins(t, f, "n", "", "cat", "x")
	for _, row := range rows {
		told(t, "Add", f.Add("n", row, "cat"), api.ErrTwice)
	}
	for i, row := range rows {
		drop(t, f, "n", row, "cat")
		stands(t, f, "n", "cat", want[2*i+2:]...)
	}
}

// TestBegin: 7.1: words that begin with one another, in order, each once, however many rows it has.
func TestBegin(t *testing.T) {
	f := empty(t)
	add(t, f, "n", 1, "c ca cat cata d b")
	add(t, f, "n", 2, "cat c\xff c\x80 ca1 cat c0")
	add(t, f, "n", 3, "cata cat")
	begins(t, f, "n", "", "b", "c", "c0", "ca", "ca1", "cat", "cata", "c\x80", "c\xff", "d")
	begins(t, f, "n", "c", "c", "c0", "ca", "ca1", "cat", "cata", "c\x80", "c\xff")
	begins(t, f, "n", "ca", "ca", "ca1", "cat", "cata")
	begins(t, f, "n", "cat", "cat", "cata")
	begins(t, f, "n", "cata", "cata")
	begins(t, f, "n", "catal")
	begins(t, f, "n", "cb")
	begins(t, f, "n", "C")
	begins(t, f, "n", "c\x80", "c\x80")
	drop(t, f, "n", 1, "cata")
	begins(t, f, "n", "cat", "cat", "cata")
	drop(t, f, "n", 3, "cata")
	begins(t, f, "n", "cat", "cat")
}

// TestNamesThatBeginWithOneAnother: 7.1: each name has its own words, also where one is another one's beginning, or has strange bytes.
func TestNamesThatBeginWithOneAnother(t *testing.T) {
	f := empty(t)
	names := []string{"n", "na", "nam", "N", "n ", "\x01", "n\x01", "\xff", "n\xff", "ncat", "cat", strings.Repeat("n", 15), strings.Repeat("n", 16)}
	for i, name := range names {
		add(t, f, name, 1+i, "a cat")
		add(t, f, name, 100, fmt.Sprint("cat", i))
	}
	many(t, f, 3*len(names))
	for i, name := range names {
		stands(t, f, name, "cat", 1+i, 1)
		begins(t, f, name, "", "a", "cat", fmt.Sprint("cat", i))
		begins(t, f, name, "ca", "cat", fmt.Sprint("cat", i))
	}
	for i, name := range names {
		drop(t, f, name, 1+i, "cat a")
		begins(t, f, name, "", fmt.Sprint("cat", i))
	}
	many(t, f, len(names))
}

// TestAskedForNoName: 7.1, P3: Places and Begin take any name and any text: of one that may not be there is nothing, also where its bytes look like those of another one.
func TestAskedForNoName(t *testing.T) {
	f := empty(t)
	add(t, f, "n", 0x01020304, "cat")
	add(t, f, "n", 0x01000000, "cat")
	add(t, f, "n", 1, "cat")
	add(t, f, "n", 0x31000000, "1") // the row's first bytes are those of the word, and an end
	for _, c := range [][2]string{
		{"n\x001", "1"}, {"n\x001", ""},
		{"", ""}, {"", "n"}, {"", "n\x00cat"}, {"\x00", ""}, {"\x00n", "cat"},
		{"n\x00", "cat"}, {"n\x00", ""}, {"n\x00cat", ""}, {"n\x00cat\x00", ""}, {"n\x00c", "at"},
		{"n\x00cat", "\x01"}, {"n\x00cat", "\x01\x02\x03\x04"}, {"n\x00cat", "\x01\x02\x03"}, {"n\x00cat\x00\x01", ""},
		{"n", "cat\x00"}, {"n", "cat\x00\x01"}, {"n", "cat\x00\x01\x02"}, {"n", "cat\x00\x01\x02\x03\x04"}, {"n", "cat\x00\x00\x00\x00\x01"},
		{"n", "\x00"}, {"n", "\x00cat"}, {"n", "cat\x00\x01\x00"},
		{strings.Repeat("n", 17), "cat"}, {strings.Repeat("n", 1<<20), "cat"}, {"n", strings.Repeat("cat", 1<<20)},
	} {
		stands(t, f, c[0], c[1])
		begins(t, f, c[0], c[1])
	}
	stands(t, f, "n", "cat", 1, 0, 0x01000000, 0, 0x01020304, 0)
	stands(t, f, "n", "1", 0x31000000, 0)
	stands(t, f, "n", "")
	begins(t, f, "n", "", "1", "cat")
}

// wrongNames may not be.
func wrongNames() []string {
	l := []string{"", "\x00", strings.Repeat("n", api.MaxName+1), strings.Repeat("n", 1<<20)}
	for i := range api.MaxName {
		b := []byte(strings.Repeat("n", api.MaxName))
		b[i] = 0
		l = append(l, string(b), string(b[:i+1]))
	}
	return l
}

// TestWrong: 7.1, P2, P3: wrong names, rows and texts, in the order in which they are told; nothing is changed.
func TestWrong(t *testing.T) {
	f := empty(t)
	add(t, f, "n", 1, "cat")
	rows := []int{0, -1, 1<<30 + 1, 1 << 31, 1<<32 + 1, math.MinInt, math.MaxInt}
	long := strings.Repeat("a", api.MaxLetter+1)
	for _, name := range wrongNames() {
		for _, row := range append(rows, 1, 2, 1<<30) {
			for _, s := range []string{"cat", "", "dog", long} {
				told(t, fmt.Sprintf("Add(%.20q, %d, %q)", name, row, s), f.Add(name, row, s), api.ErrArg)
				told(t, fmt.Sprintf("Drop(%.20q, %d, %q)", name, row, s), f.Drop(name, row, s), api.ErrArg)
			}
		}
	}
	for _, row := range rows {
		for _, s := range []string{"cat", "", "dog", long} {
			told(t, fmt.Sprintf("Add(%d, %q)", row, s), f.Add("n", row, s), api.ErrRange)
			told(t, fmt.Sprintf("Drop(%d, %q)", row, s), f.Drop("n", row, s), api.ErrRange)
		}
	}
	for _, s := range []string{long, long + " cat", "cat " + long, strings.Repeat(" ", api.MaxLetter+1), strings.Repeat("cat ", 1<<20)} {
		told(t, "Add of a text that is too long", f.Add("n", 1, s), api.ErrArg)
		told(t, "Add of a text that is too long", f.Add("n", 2, s), api.ErrArg)
	}
	many(t, f, 1)
	stands(t, f, "n", "cat", 1, 0)
	begins(t, f, "n", "", "cat")
}

// TestBounds: 7.1: the longest name and text, the least row and the greatest one.
func TestBounds(t *testing.T) {
	f := empty(t)
	name := strings.Repeat("n", api.MaxName)
	for _, row := range []int{1, 1 << 30} {
		add(t, f, name, row, strings.Repeat("a", api.MaxLetter))
		add(t, f, name, row, strings.Repeat(" ", api.MaxLetter-3)+"cat")
		add(t, f, "n", row, strings.Repeat("\xff", api.MaxLetter))
	}
	stands(t, f, name, strings.Repeat("a", api.MaxWord), 1, 0, 1<<30, 0)
	stands(t, f, name, "cat", 1, 0, 1<<30, 0)
	stands(t, f, "n", strings.Repeat("\xff", api.MaxWord), 1, 0, 1<<30, 0)
	drop(t, f, name, 1<<30, "cat")
	stands(t, f, name, "cat", 1, 0)
}

// filled notes places, till there are so many, of some names.
func filled(t *testing.T, f *Finder, places int) {
	t.Helper()
	for i := range places {
		add(t, f, []string{"n", "m", "nm"}[i%3], 1+i/30, fmt.Sprintf("w%d", i%30))
	}
	many(t, f, places)
}

// TestFull: 7.1, P2: five hundred places of all names and words may be, and none more: then ErrFull, and nothing is changed.
func TestFull(t *testing.T) {
	f := empty(t)
	filled(t, f, 497)
	want := all(t, f, "n", "m", "nm", "o")
	for _, s := range []string{"a b c d", "a a a a", strings.Repeat("a ", 20)} {
		for _, name := range []string{"n", "m", "o"} {
			told(t, s, f.Add(name, 1000, s), api.ErrFull)
		}
	}
	if got := all(t, f, "n", "m", "nm", "o"); got != want {
		t.Fatalf("%s, want %s", got, want)
	}
	add(t, f, "o", 1000, "a a b")
	many(t, f, 500)
	want = all(t, f, "n", "m", "nm", "o")
	told(t, "Add", f.Add("o", 1001, "a"), api.ErrFull)
	told(t, "Add", f.Add("p", 1, "a"), api.ErrFull)
	told(t, "Add", f.Add("o", 1000, "c"), api.ErrFull)
	// What is told ahead of it, and what asks for no place.
	told(t, "Add", f.Add("o", 1000, "c a"), api.ErrTwice)
	told(t, "Add", f.Add("", 1000, "c"), api.ErrArg)
	told(t, "Add", f.Add("o", 0, "c"), api.ErrRange)
	told(t, "Add", f.Add("o", 1000, strings.Repeat("c", api.MaxLetter+1)), api.ErrArg)
	add(t, f, "o", 1000, "")
	if got := all(t, f, "n", "m", "nm", "o"); got != want {
		t.Fatalf("%s, want %s", got, want)
	}
	drop(t, f, "o", 1000, "a")
	many(t, f, 498)
	add(t, f, "o", 1000, "c c")
	told(t, "Add", f.Add("o", 1000, "a"), api.ErrFull)
	many(t, f, 500)
}

// TestRoomForAll: 7.1: a tree has room for five hundred places, wherever they stand: of the longest names and words, in the greatest rows; of one word; of one row.
func TestRoomForAll(t *testing.T) {
	name := strings.Repeat("n", api.MaxName)
	for what, do := range map[string]func(f *Finder, i int) error{
		"long words": func(f *Finder, i int) error { return f.Add(name, 1<<30-i, fmt.Sprintf("word%08d", i)) },
		"long words, in one row": func(f *Finder, i int) error {
			return f.Add(name, 1<<30, fmt.Sprintf("word%08d", i*7%500))
		},
		"one word": func(f *Finder, i int) error { return f.Add(name, 1<<30-i*1000, "abcdefghijkl") },
		"one word, in rows side by side": func(f *Finder, i int) error {
			return f.Add(name, 1+i*7%500, "abcdefghijkl")
		},
		"one word, of many names": func(f *Finder, i int) error {
			return f.Add(fmt.Sprintf("n%015d", i), 1<<30, "abcdefghijkl")
		},
	} {
		f := empty(t)
		for i := range 500 {
			told(t, fmt.Sprint(what, " ", i), do(f, i), nil)
		}
		many(t, f, 500)
		told(t, what, f.Add("n", 1, "x"), api.ErrFull)
		if sum := f.tree.Sum(); sum > api.MaxSum {
			t.Errorf("%s: %d bytes", what, sum)
		}
	}
}

// TestOrders: 7.1: what is noted first makes no difference, nor what is forgotten first.
func TestOrders(t *testing.T) {
	type text struct {
		name string
		row  int
		s    string
	}
	var texts []text
	for i := range 60 {
		texts = append(texts, text{[]string{"n", "nn"}[i%2], 1 + i*i%23*100 + i, fmt.Sprintf("cat w%d cats x%d", i%7, i)})
	}
	want, half := "", ""
	dice := die(1)
	for n := range 20 {
		f := empty(t)
		for i := range texts {
			j := i + dice.below(len(texts)-i)
			if n == 0 {
				j = i
			}
			texts[i], texts[j] = texts[j], texts[i]
			add(t, f, texts[i].name, texts[i].row, texts[i].s)
		}
		got := all(t, f, "n", "nn")
		slices.SortFunc(texts, func(a, b text) int { return a.row*7%31 - b.row*7%31 })
		for _, x := range texts {
			if x.row%2 == 0 {
				drop(t, f, x.name, x.row, x.s)
			}
		}
		left := all(t, f, "n", "nn")
		if n == 0 {
			want, half = got, left
		}
		if got != want || left != half {
			t.Fatalf("%s, then %s, want %s, then %s", got, left, want, half)
		}
	}
}

// fallen is a finder with some places, or none, whose pager is Down.
func fallen(t *testing.T, places int) *Finder {
	t.Helper()
	d := &disk.Disk{}
	p := opened(t, d)
	f := over(t, p)
	filled(t, f, places)
	d.Cut(0, 0)
	told(t, "Commit", p.Commit(), api.ErrDevice)
	return f
}

// TestDown: 7.1, P2, P3: if the pager is Down, all tell ErrState, also where there would be nothing to do; behind what is told of the arguments alone.
func TestDown(t *testing.T) {
	for _, places := range []int{0, 3, 500} {
		f := fallen(t, places)
		for _, name := range []string{"n", "m", "none", "", "n\x00", strings.Repeat("n", 17)} {
			for _, s := range []string{"", "w1", "w", "none", "w1\x00"} {
				if l, err := f.Places(name, s); len(l) != 0 || err != api.ErrState {
					t.Errorf("%d: Places(%q, %q) = %v, %v", places, name, s, l, err)
				}
				if l, err := f.Begin(name, s); len(l) != 0 || err != api.ErrState {
					t.Errorf("%d: Begin(%q, %q) = %q, %v", places, name, s, l, err)
				}
			}
		}
		if n, err := f.Many(); n != 0 || err != api.ErrState {
			t.Errorf("%d: Many() = %d, %v", places, n, err)
		}
		for _, s := range []string{"", " ", "w1", "none", "w1 none", "none w1"} {
			told(t, "Add", f.Add("n", 1, s), api.ErrState)
			told(t, "Drop", f.Drop("n", 1, s), api.ErrState)
			told(t, "Add", f.Add("", 1, s), api.ErrArg)
			told(t, "Drop", f.Drop("", 1, s), api.ErrArg)
			told(t, "Add", f.Add("n", 0, s), api.ErrRange)
			told(t, "Drop", f.Drop("n", 0, s), api.ErrRange)
		}
		told(t, "Add", f.Add("n", 1, strings.Repeat("w", 41)), api.ErrArg)
		told(t, "Drop", f.Drop("n", 1, strings.Repeat("w", 41)), api.ErrState)
	}
}

// TestAsThePagerIs: P1: what the pager takes back is taken back; what it commits is there for one that is opened anew.
func TestAsThePagerIs(t *testing.T) {
	d := &disk.Disk{}
	p := opened(t, d)
	f := over(t, p)
	add(t, f, "n", 1, "cat and dog")
	told(t, "Commit", p.Commit(), nil)
	add(t, f, "n", 2, "cat")
	m := p.Mark()
	drop(t, f, "n", 1, "cat and")
	add(t, f, "n", 3, "cats")
	stands(t, f, "n", "cat", 2, 0, 3, 0)
	told(t, "Back", p.Back(m), nil)
	stands(t, f, "n", "cat", 1, 0, 2, 0)
	many(t, f, 4)
	told(t, "Rollback", p.Rollback(), nil)
	stands(t, f, "n", "cat", 1, 0)
	many(t, f, 3)
	add(t, f, "n", 2, "cat")
	told(t, "Commit", p.Commit(), nil)
	add(t, f, "n", 4, "cat")
	g := over(t, opened(t, d))
	stands(t, g, "n", "cat", 1, 0, 2, 0)
	begins(t, g, "n", "", "and", "cat", "dog")
	many(t, g, 4)
	told(t, "Add", g.Add("n", 2, "cat"), api.ErrTwice)
}

// TestNoPageLeft: 7.1, P2: if the pager has no page left, an Add that needs one tells ErrFull, and none of its words is noted; a Drop never needs one.
func TestNoPageLeft(t *testing.T) {
	for places := 0; places < 80; places += 3 {
		for spare := range 3 {
			p := opened(t, &disk.Disk{})
			f := over(t, p)
			filled(t, f, places)
			for p.Used() < api.MaxPages-spare {
				_, err := p.Alloc()
				told(t, "Alloc", err, nil)
			}
			var err error
			row := 100
			for ; err == nil; row++ {
				want := all(t, f, "n", "m", "nm", "o")
				err = f.Add([]string{"n", "o"}[row%2], row, "a w1 w2 w3 z a b c d e f g h")
				if got := all(t, f, "n", "m", "nm", "o"); err != nil && got != want {
					t.Fatalf("%d places, %d spare: %s, want %s", places, spare, got, want)
				}
			}
			told(t, "Add", err, api.ErrFull)
			if n, _ := f.Many(); n > 487 {
				t.Fatalf("%d places: too many to tell why it is full", n)
			}
			for i := range places {
				drop(t, f, []string{"n", "m", "nm"}[i%3], 1+i/30, fmt.Sprintf("w%d", i%30))
			}
			for row--; row >= 100; row-- {
				drop(t, f, []string{"n", "o"}[row%2], row, "a w1 w2 w3 z b c d e f g h")
			}
			many(t, f, 0)
		}
	}
}

// scrawl writes over a text's memory.
func scrawl(s string) {
	for i := range len(s) {
		unsafe.Slice(unsafe.StringData(s), len(s))[i] = '!'
	}
}

// TestNothingIsKept: P4: no memory of a text that is handed in is kept.
func TestNothingIsKept(t *testing.T) {
	f := empty(t)
	name, text := []byte("name"), []byte("cat dog")
	add(t, f, unsafe.String(&name[0], 4), 1, unsafe.String(&text[0], 7))
	copy(name, "xxxx")
	copy(text, "xxxxxxx")
	stands(t, f, "name", "cat", 1, 0)
	stands(t, f, "name", "dog", 1, 1)
	begins(t, f, "name", "", "cat", "dog")
}

// TestAnswersAreFresh: P4: what comes out is the caller's own memory.
func TestAnswersAreFresh(t *testing.T) {
	f := empty(t)
	add(t, f, "n", 1, "cat dog cat")
	add(t, f, "n", 2, "cat")
	l, _ := f.Places("n", "cat")
	m, _ := f.Places("n", "cat")
	clear(l[:cap(l)])
	if want := []api.Place{{Row: 1}, {Row: 1, At: 2}, {Row: 2}}; !slices.Equal(m, want) {
		t.Errorf("two answers share memory: %v, want %v", m, want)
	}
	stands(t, f, "n", "cat", 1, 0, 1, 2, 2, 0)
	s := []byte("do")
	a, _ := f.Begin("n", "")
	b, _ := f.Begin("n", unsafe.String(&s[0], 2))
	copy(s, "xx")
	scrawl(a[0])
	scrawl(a[1])
	if !slices.Equal(b, []string{"dog"}) {
		t.Errorf("an answer shares memory: %q", b)
	}
	begins(t, f, "n", "", "cat", "dog")
}

// TestStrangeTree: P1: no call panics, and each ends, whatever the tree has.
func TestStrangeTree(t *testing.T) {
	for _, pair := range []tree.Pair{
		{Key: "\x00"}, {Key: "n"}, {Key: "n\x00"}, {Key: "n\x00cat"}, {Key: "n\x00cat\x00"}, {Key: "n\x00cat\x00\x00\x00\x00\x01"},
		{Key: "n\x00cat\x00\x00\x00\x00\x01", Item: "\xff\xff"}, {Key: "n\x00cat\x00\x00\x00\x00\x01", Item: "\x00"},
		{Key: strings.Repeat("\x00", api.MaxKey), Item: strings.Repeat("\x00", api.MaxItem)},
		{Key: strings.Repeat("\xff", api.MaxKey), Item: strings.Repeat("\xff", api.MaxItem)},
	} {
		f := empty(t)
		told(t, "Put", f.tree.Put(pair.Key, pair.Item), nil)
		f.Many()
		for _, s := range []string{"", "cat", "c", "\x00"} {
			f.Places("n", s)
			f.Places("", s)
			f.Begin("n", s)
			f.Begin("", s)
			f.Add("n", 1, s)
			f.Drop("n", 1, s)
		}
	}
}
