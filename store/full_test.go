package store

import (
	"fmt"
	"testing"

	"concordance/api"
)

// back takes all back that was done since a mark, and fails, unless all is as it was then.
func (h *house) back(do func() error, want error) {
	h.t.Helper()
	m, was := h.pager.Mark(), h.all()
	told(h.t, "full", do(), want)
	told(h.t, "Back", h.pager.Back(m), nil)
	h.unchanged(was)
	h.whole()
}

// inserted is what Insert tells of a row; with an error no number.
func (h *house) inserted(name string, l []api.Value) func() error {
	return func() error {
		n, err := h.Insert(name, l)
		if (n == 0) != (err != nil) {
			h.t.Errorf("Insert = %d, %v", n, err)
		}
		return err
	}
}

// updated is what Update tells of a row.
func (h *house) updated(name string, n int, l []api.Value) func() error {
	return func() error { return h.Update(name, n, l) }
}

// indexing is what Index tells of a column.
func (h *house) indexing(name, column string) func() error {
	return func() error { return h.Index(name, column) }
}

// three are three texts of so many letters in all, in as few as may be.
func three(letters int) []api.Value {
	l := row(text(""), text(""), text(""))
	for i := range l {
		n := min(letters, api.MaxLetter)
		l[i] = text(so(n))
		letters -= n
	}
	return l
}

// TestRowsFull: 13.3: a Sum of tree 1 of MaxSum may be, one more is ErrFull, of Insert and of Update: then all can be taken back.
func TestRowsFull(t *testing.T) {
	columns := []api.Column{texts("a"), texts("b"), texts("c")}
	h := built(t, table("r", columns...), table("s", columns...), table("t", columns...), table("u", columns...), table("v", numbers("a")))
	// Three hundred rows of a hundred bytes: ten of the key, 88 of what they have, and two.
	for _, name := range []string{"r", "s", "t"} {
		for i := range 100 {
			h.insert(name, 1+i, three(82))
		}
	}
	h.sums(api.MaxSum, 0)
	h.whole()
	for range 2 {
		h.back(h.inserted("u", three(0)), api.ErrFull)
		h.back(h.inserted("u", row(nothing, nothing, nothing)), api.ErrFull)
		h.back(h.inserted("v", row(nothing)), api.ErrFull)
		h.back(h.updated("s", 50, three(83)), api.ErrFull)
		h.back(h.updated("t", 100, three(94)), api.ErrFull)
		// What is WRONG is told as ever, and so is what takes no room.
		h.back(h.updated("s", 50, three(95)), api.ErrLimit)
		h.back(h.updated("s", 50, three(82)), nil)
		h.back(h.updated("s", 50, row(text(so(2)), text(so(40)), text(so(40)))), nil)
		h.back(h.updated("s", 50, three(81)), nil)
	}
	// One byte less, and one row can have one more.
	told(t, "Update", h.Update("r", 1, three(81)), nil)
	h.sums(api.MaxSum-1, 0)
	h.back(h.updated("t", 7, three(84)), api.ErrFull)
	told(t, "Update", h.Update("t", 7, three(83)), nil)
	h.sums(api.MaxSum, 0)
	// A row less, and there is room for a row of just as many bytes.
	told(t, "Delete", h.Delete("s", 3), nil)
	h.back(h.inserted("u", three(83)), api.ErrFull)
	h.back(h.inserted("u", three(82)), nil)
	h.insert("u", 1, three(82))
	h.sums(api.MaxSum, 0)
	h.whole()
	// Rows of the least bytes there may be: ten, one, and two.
	told(t, "Delete", h.Delete("s", 4), nil)
	for i := range 7 {
		h.insert("v", 1+i, row(nothing))
	}
	h.sums(api.MaxSum-9, 0)
	h.back(h.inserted("v", row(nothing)), api.ErrFull)
	told(t, "Update", h.Update("v", 7, row(num(1))), nil)
	h.sums(api.MaxSum-1, 0)
	h.back(h.updated("v", 1, row(num(1))), api.ErrFull)
	told(t, "Drop", h.Drop("r"), nil)
	h.insert("u", 2, three(94))
	h.whole()
}

// two are two texts of so many letters each.
func two(a, b int) []api.Value { return row(text(so(a)), text(so(b))) }

// TestIndexesFull: 13.3: a Sum of tree 2 of MaxSum may be, one more is ErrFull, of Insert, of Update and of Index: then all can be taken back.
func TestIndexesFull(t *testing.T) {
	columns := []api.Column{texts("a"), texts("b")}
	h := built(t, indexed(table("r", columns...)), indexed(table("s", columns...)), indexed(table("t", columns...)), indexed(table("u", columns...)), table("v", columns...), table("w", numbers("a")))
	// Three hundred rows of two values of fifty bytes each: eleven of the key, 37 of what they have, and two.
	for _, name := range []string{"r", "s", "t"} {
		for i := range 100 {
			h.insert(name, 1+i, two(35, 35))
		}
	}
	rows := 300 * (10 + 74 + 2)
	h.sums(rows, api.MaxSum)
	h.whole()
	for range 2 {
		h.back(h.inserted("u", row(nothing, nothing)), api.ErrFull)
		h.back(h.updated("s", 50, two(35, 36)), api.ErrFull)
		h.back(h.updated("s", 50, two(40, 31)), api.ErrFull)
		h.back(h.updated("s", 50, two(31, 40)), api.ErrFull)
		// Full is what would be so in the end: whichever value is the longer one then.
		h.back(h.updated("s", 50, two(40, 30)), nil)
		h.back(h.updated("s", 50, two(30, 40)), nil)
		h.back(h.updated("s", 50, two(35, 35)), nil)
		h.back(h.updated("s", 50, row(nothing, nothing)), nil)
		// What stands in no index has room yet.
		h.back(h.inserted("v", two(35, 35)), nil)
		h.back(h.indexing("v", "a"), nil)
		h.back(h.indexing("w", "a"), nil)
	}
	h.insert("v", 1, two(3, 40), row(nothing, nothing))
	h.insert("w", 1, row(num(1)))
	h.back(h.indexing("v", "a"), api.ErrFull)
	h.back(h.indexing("v", "b"), api.ErrFull)
	h.back(h.indexing("w", "a"), api.ErrFull)
	_, err := h.Range("v", "a", nil, nil)
	told(t, "Range", err, api.ErrName)
	// An index by a takes 18 bytes of one row, and, as nothing stands there, too, 14 of the other one.
	told(t, "Update", h.Update("r", 1, two(20, 19)), nil)
	h.back(h.indexing("v", "a"), api.ErrFull)
	told(t, "Update", h.Update("r", 1, two(20, 18)), nil)
	rows -= 32
	told(t, "Index", h.Index("v", "a"), nil)
	h.sums(rows+12+47+12+2+12+9, api.MaxSum)
	h.whole()
	h.back(h.inserted("v", row(nothing, nothing)), api.ErrFull)
	h.back(h.updated("v", 1, two(4, 0)), api.ErrFull)
	h.back(h.updated("v", 2, row(text(""), nothing)), api.ErrFull)
	h.back(h.updated("v", 1, two(3, 0)), nil)
	// An index by a number takes 22 bytes.
	told(t, "Update", h.Update("r", 2, two(14, 35)), nil)
	h.back(h.indexing("w", "a"), api.ErrFull)
	told(t, "Update", h.Update("r", 2, two(13, 35)), nil)
	told(t, "Index", h.Index("w", "a"), nil)
	if sum := h.tree(2).Sum(); sum != api.MaxSum {
		t.Errorf("the sum is %d", sum)
	}
	h.whole()
	told(t, "Delete", h.Delete("s", 9), nil)
	h.insert("u", 1, two(35, 35))
	h.back(h.inserted("u", row(nothing, nothing)), api.ErrFull)
	told(t, "Drop", h.Drop("r"), nil)
	h.insert("u", 2, two(40, 40))
	h.whole()
}

// TestWordsFull: 13.3: five hundred places of words may be, one more is ErrFull, of Insert and of Update: then all can be taken back.
func TestWordsFull(t *testing.T) {
	h := built(t, table("s", worded("a")), table("t", numbers("a"), worded("b"), worded("c")), table("u", texts("a")))
	twenty := "a b c d e f g h i j k l m n o p q r s t"
	for i := range 20 {
		h.insert("s", 1+i, row(text(twenty)))
	}
	// Words count as often as they stand there.
	h.insert("t", 1, row(nothing, text("x x x x x x x x x x"), text("y y y y y y y y y y")))
	for i := range 4 {
		h.insert("t", 2+i, row(num(1), text(twenty), nothing))
	}
	if n, err := h.Words.Many(); n != 500 || err != nil {
		t.Fatalf("Many() = %d, %v", n, err)
	}
	h.whole()
	for range 2 {
		h.back(h.inserted("s", row(text("a"))), api.ErrFull)
		h.back(h.inserted("t", row(num(1), nothing, text("zebra"))), api.ErrFull)
		h.back(h.inserted("t", row(num(1), text("zebra"), nothing)), api.ErrFull)
		h.back(h.updated("t", 1, row(num(1), text("x x x x x x x x x x x"), text("y y y y y y y y y y"))), api.ErrFull)
		h.back(h.updated("t", 1, row(num(1), text("x x x x x x x x x x"), text("y y y y y y y y y y y"))), api.ErrFull)
		h.back(h.updated("t", 2, row(num(1), text(twenty), text("a"))), api.ErrFull)
		// What has no words has room yet, and words may take the place of others, also from one column to another.
		h.back(h.inserted("s", row(text("-"))), nil)
		h.back(h.inserted("s", row(nothing)), nil)
		h.back(h.inserted("u", row(text(twenty))), nil)
		h.back(h.updated("s", 3, row(text(twenty))), nil)
		h.back(h.updated("t", 2, row(num(1), nothing, text(twenty))), nil)
		h.back(h.updated("t", 1, row(num(1), text("x x x x x x x x x x y y y y y y y y y y"), text(""))), nil)
		h.back(h.updated("t", 1, row(num(1), text("z"), text("x x x x x x x x x x y y y y y y y y y"))), nil)
	}
	told(t, "Update", h.Update("s", 3, row(text("a b c"))), nil)
	h.back(h.inserted("t", row(num(1), text("a b c d e f g h i"), text("a b c d e f g h i"))), api.ErrFull)
	h.insert("t", 6, row(num(1), text("a b c d e f g h i"), text("a b c d e f g h")))
	h.back(h.inserted("s", row(text("a"))), api.ErrFull)
	h.whole()
	told(t, "Drop", h.Drop("s"), nil)
	h.insert("t", 7, row(num(1), text(twenty), text(twenty)))
	h.whole()
}

// TestTakenBackByRollback: 13.3: after an error all can be taken back to what was committed, too; and then the store goes on.
func TestTakenBackByRollback(t *testing.T) {
	columns := []api.Column{worded("a"), worded("b"), texts("c")}
	h := built(t, indexed(table("t", columns...)), table("u", columns...))
	for n := 0; ; n++ {
		told(t, "Commit", h.pager.Commit(), nil)
		was := h.all()
		_, err := h.Insert([]string{"t", "u"}[n%2], row(text(fmt.Sprint("a b c d ", n)), text(fmt.Sprint("a b ", n, " d")), text(so(40))))
		if err == nil {
			continue
		}
		told(t, "Insert", err, api.ErrFull)
		told(t, "Rollback", h.pager.Rollback(), nil)
		h.unchanged(was)
		h.whole()
		h.insert("u", n/2+1, row(nothing, nothing, nothing))
		break
	}
	h.whole()
}

// TestNoPageLeft: 13.3, P1: if the pager has no page left, what needs one tells ErrFull, and can be taken back; what takes out never needs one.
func TestNoPageLeft(t *testing.T) {
	for spare := range 6 {
		h := built(t, indexed(pair("t")), pair("u"))
		h.insert("u", 1, row(num(1), text("cat")))
		for h.pager.Used() < api.MaxPages-spare {
			_, err := h.pager.Alloc()
			told(t, "Alloc", err, nil)
		}
		n := 1
		for refused := 0; refused < 5; n++ {
			m, was := h.pager.Mark(), h.all()
			if _, err := h.Insert("t", row(num(int64(n)), text(fmt.Sprint("word", n)))); err != nil {
				told(t, "Insert", err, api.ErrFull)
				told(t, "Back", h.pager.Back(m), nil)
				h.unchanged(was)
				refused++
			}
			h.whole()
		}
		told(t, "Delete", h.Delete("u", 1), nil)
		h.whole()
		told(t, "Drop", h.Drop("t"), nil)
		h.whole()
	}
}
