package store

import (
	"fmt"
	"slices"
	"testing"
	"unsafe"

	"concordance/api"
	"concordance/disk"
	"concordance/tree"
)

// scrawl writes over a text's memory. (A text of one byte lies where nobody may write: here all have more.)
func scrawl(s string) {
	for i := range len(s) {
		unsafe.Slice(unsafe.StringData(s), len(s))[i] = '!'
	}
}

// own is a text in memory of its own, which may be written into.
func own(s string) string { return string([]byte(s)) }

// scrawlValues writes over all that values have, also behind the list's length.
func scrawlValues(l []api.Value) {
	l = l[:cap(l)]
	for i := range l {
		scrawl(l[i].Text)
	}
	clear(l)
}

// TestNothingIsKept: P4: no memory of what is handed in is kept, nor comes out.
func TestNothingIsKept(t *testing.T) {
	fox, dog := row(num(1), text("the foxes")), row(num(2), text("some dogs"))
	h := built(t, table("name", numbers("first"), worded("second")))
	name, column, l := own("name"), own("second"), row(num(1), text(own("the foxes")))
	if n, err := h.Insert(name, l); n != 1 || err != nil {
		t.Errorf("Insert = %d, %v", n, err)
	}
	scrawlValues(l)
	h.insert(name, 2, fox)
	l = row(num(2), text(own("some dogs")))
	told(t, "Update", h.Update(name, 2, l), nil)
	scrawlValues(l)
	told(t, "Index", h.Index(name, column), nil)
	rows, err := h.Scan(name)
	told(t, "Scan", err, nil)
	one, err := h.Get(name, 1)
	told(t, "Get", err, nil)
	low := text(own("some dogs"))
	found, err := h.Range(name, column, &low, &low)
	told(t, "Range", err, nil)
	scrawl(low.Text)
	scrawl(name)
	scrawl(column)
	if !slices.EqualFunc(rows, []Row{{1, fox}, {2, dog}}, same) || !same(one, Row{1, fox}) || !slices.Equal(found, []int{2}) {
		t.Errorf("an answer shares memory with what was asked: %v, %v, %v", rows, one, found)
	}
	h.has("name", Row{1, fox}, Row{2, dog})
	h.whole()
}

// TestNothingIsWritten: P4: what is handed in stays as it is, also what stands behind a list's length, be it an error or none.
func TestNothingIsWritten(t *testing.T) {
	h := built(t, indexed(pair("t")))
	for _, whole := range [][]api.Value{row(num(1), text("a cat"), num(7)), row(nothing, text("a cat"), num(7)), row(num(1), num(2), num(7)), row(num(1), text(so(41)), num(7))} {
		want := slices.Clone(whole)
		for n := range 4 {
			h.Insert("t", whole[:n])
			h.Update("t", 1, whole[:n])
		}
		low, high := whole[0], whole[1]
		h.Range("t", "a", &low, &high)
		h.Range("t", "b", &low, &high)
		if !slices.Equal(whole, want) || low != want[0] || high != want[1] {
			t.Errorf("%v, want %v", whole, want)
		}
	}
}

// TestAnswersAreFresh: P4: what comes out is the caller's own memory: it may be written into, and no two lists of it share any.
func TestAnswersAreFresh(t *testing.T) {
	h := built(t, indexed(table("t", numbers("a"), worded("b"))))
	var want []Row
	for i := range 20 {
		l := row(num(int64(i)), text(fmt.Sprint("cats ", i)))
		h.insert("t", 1+i, l)
		want = append(want, Row{1 + i, l})
	}
	told(t, "Commit", h.pager.Commit(), nil)
	for i := range want {
		a, _ := h.Scan("t")
		b, _ := h.Scan("t")
		r, _ := h.Get("t", 1+i)
		numbers, _ := h.Range("t", "a", nil, nil)
		scrawlValues(a[i].Values)
		scrawlValues(r.Values)
		clear(numbers[:cap(numbers)])
		for k := range want {
			if k != i && !same(a[k], want[k]) || !same(b[k], want[k]) {
				t.Fatalf("answers share memory: %v, %v", a[k], b[k])
			}
		}
		clear(a[:cap(a)])
		h.has("t", want...)
	}
	h.whole()
}

// everything asks all that can be asked of a store, whatever comes of it.
func (h *house) everything(names ...string) {
	v := num(1)
	for _, name := range names {
		for _, n := range []int{0, 1, 2, -1} {
			h.Get(name, n)
			h.Update(name, n, row(num(1), text("a")))
			h.Delete(name, n)
		}
		h.Insert(name, row(num(1), text("a")))
		h.Insert(name, nil)
		h.Scan(name)
		for _, column := range []string{"a", "b"} {
			h.Range(name, column, nil, nil)
			h.Range(name, column, &v, &v)
			h.Index(name, column)
		}
	}
	for _, name := range names {
		h.Drop(name)
	}
}

// TestStrangeTrees: P1: no call panics, and each ends, whatever lies in the trees.
func TestStrangeTrees(t *testing.T) {
	items := []string{"", "\x00", "\x01", "\x01\x01", "\x01\x01\x01", "\x02", "\x03a\x00", "\x02\x80\x00\x00\x00\x00\x00\x00\x01", "\x02\x80\x00\x00\x00\x00\x00\x00\x01\x03a\x00", "\x04", so(100)}
	for _, root := range []int{rows, indexes, words} {
		for _, begin := range []string{"\x00\x01", "\x00\x01\x00", "\x00\x01\x01", "\x00\x02", "t1c1\x00a\x00"} {
			for _, end := range []string{"", "\x00", "\x00\x00\x00\x01", number(1, rowSize), number(1, rowSize)[1:], number(2, rowSize), number(-1, rowSize), number(1, 9), "\x01" + number(1, rowSize), "\x01\x01" + number(1, rowSize), "\x03a\x00" + number(1, rowSize), so(50)} {
				for _, item := range items {
					for made := range 2 {
						h := built(t, indexed(pair("t")), pair("u"))
						if made == 1 {
							h.insert("t", 1, row(num(1), text("a")))
						}
						told(t, "Put", h.trees[root].Put(begin+end, item), nil)
						h.everything("t", "u")
					}
				}
			}
		}
	}
}

// TestSpoilt: P2: what is no row, and what is none of an index, is told to be spoilt, and nothing else.
func TestSpoilt(t *testing.T) {
	for _, p := range []tree.Pair{{Key: tableKey(1)}, {Key: rowKey(1, 2)[:9], Item: "\x01\x01"}, {Key: rowKey(1, 2) + "\x00", Item: "\x01\x01"}, {Key: rowKey(1, 2)}, {Key: rowKey(1, 2), Item: "\x01"}, {Key: rowKey(1, 2), Item: "\x01\x01\x01"}, {Key: rowKey(1, 2), Item: "\x01\x04"}} {
		h := built(t, indexed(pair("t")))
		h.insert("t", 1, row(num(1), text("a")))
		told(t, "Put", h.tree(1).Put(p.Key, p.Item), nil)
		if l, err := h.Scan("t"); l != nil || err != api.ErrSpoilt {
			t.Errorf("Scan = %v, %v", l, err)
		}
		if r, err := h.Get("t", 2); r.Id != 0 || r.Values != nil || err != api.ErrSpoilt && p.Key == rowKey(1, 2) {
			t.Errorf("Get = %v, %v", r, err)
		}
	}
	for _, s := range []string{"", number(1, rowSize), number(1, rowSize)[1:], "\x04" + number(1, rowSize), "\x01\x01" + number(1, rowSize)} {
		h := built(t, indexed(pair("t")))
		h.insert("t", 1, row(num(1), text("a")))
		told(t, "Put", h.tree(2).Put(columnKey(1, 0)+s, ""), nil)
		if l, err := h.Range("t", "a", nil, nil); l != nil || err != api.ErrSpoilt {
			t.Errorf("Range = %v, %v", l, err)
		}
	}
}

// TestStrangeTables: P1: nor, whatever tables the catalog's tree tells of.
func TestStrangeTables(t *testing.T) {
	head := func(id byte, next int) tree.Pair {
		return tree.Pair{Key: "t\x00", Item: string([]byte{id}) + number(next, rowSize)}
	}
	column := func(i byte, item string) tree.Pair { return tree.Pair{Key: "t\x00" + string([]byte{i}), Item: item} }
	for _, l := range [][]tree.Pair{
		{head(1, 1)}, {head(0, 0)}, {head(255, -1)}, {head(2, 1<<30), column(1, "\x01\x00\x00\x01a"), column(2, "\x02\x00\x01\x01b")},
		{head(2, 1<<30+1), column(1, "\x01\x00\x00\x01a"), column(2, "\x02\x00\x01\x01b")}, {head(2, -1), column(1, "\x01\x00\x00\x01a"), column(2, "\x02\x00\x01\x01b")},
		{head(1, 1), column(1, "\x01\x00\x01\x01a"), column(2, "\x02\x00\x01\x01a")}, {head(1, 1), column(9, "\xff\x01\x01\x01a"), column(10, "\x00\x00\x00\x00b")},
		{head(1, 1), column(1, "\x01\x01\x01\x01a"), column(2, "\x02\x01\x01\x01b"), column(3, "\x02\x01\x01\x01c")}, {column(1, "\x01\x00\x00\x01a")},
	} {
		for _, other := range []api.Table{indexed(pair("u")), indexed(table("u", numbers("a")))} {
			h := built(t, other)
			h.insert("u", 1, row(num(1), text("a"))[:len(other.Columns)])
			for _, p := range l {
				told(t, "Put", h.trees[tables].Put(p.Key, p.Item), nil)
			}
			h.everything("t", "u")
		}
	}
}

// TestStrangePages: P1: nor, whatever a disk's pages have.
func TestStrangePages(t *testing.T) {
	dice := die(7)
	for n := range 300 {
		d := &disk.Disk{}
		h := over(t, d, opened(t, d))
		told(t, "Create", h.Catalog.Create(indexed(pair("t"))), nil)
		for i := range 40 {
			h.insert("t", 1+i, row(num(int64(i)), text("cat dog")))
		}
		for k := 1; k < h.pager.Used(); k++ {
			s, err := h.pager.Read(k)
			told(t, "Read", err, nil)
			b := []byte(s)
			for range dice.below(1 + n%20) {
				b[dice.below(len(b))] = byte(dice.below(256))
			}
			told(t, "Write", h.pager.Write(k, string(b)), nil)
		}
		h.everything("t", "u", "")
	}
}
