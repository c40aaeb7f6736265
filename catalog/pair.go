package catalog

import (
	"slices"
	"strings"

	"concordance/api"
	"concordance/tree"
)

// A table lies in several pairs of the tree, as one has no room for all its names: the head stands at the table's name and an end, each column at that and one byte more. All of a table stand side by side, the head first, then the columns in their order. What is noted later (the next row, an index) leaves an item as long as it was: so it never asks for a page more.

// end stands in a key behind the table's name: no name has it. As it is the least byte, keys have the order of names. No column's byte is one: so what is asked for with an end in it looks like no table.
const end = "\x00"

const (
	headSize = 9 // bytes of a head's item: the table's number, and eight of the next row
	marks    = 4 // bytes of a column's item ahead of its name: its kind, Must, Words, and whether there is an index by it
)

// start is with what the keys of a table begin.
func start(name string) string {
	return name + end
}

// pairs are all of a table.
func pairs(e Entry) []tree.Pair {
	l := []tree.Pair{headPair(e)}
	for i := range e.Table.Columns {
		l = append(l, columnPair(e.Table, i))
	}
	return l
}

// headPair is the pair of a table's numbers.
func headPair(e Entry) tree.Pair {
	b := []byte{byte(e.Id)}
	for shift := 56; shift >= 0; shift -= 8 {
		b = append(b, byte(e.Next>>shift))
	}
	return tree.Pair{Key: start(e.Table.Name), Item: string(b)}
}

// columnPair is the pair of a table's column.
func columnPair(t api.Table, i int) tree.Pair {
	c := t.Columns[i]
	b := []byte{byte(c.Kind), mark(c.Must), mark(c.Words), mark(slices.Contains(t.Indexes, c.Name))}
	return tree.Pair{Key: start(t.Name) + string([]byte{byte(i + 1)}), Item: string(b) + c.Name}
}

// mark is a byte that says whether something is so.
func mark(is bool) byte {
	if is {
		return 1
	}
	return 0
}

// put lets pairs stand in the tree. The tree's errors: then those ahead of it are put.
func (c *Catalog) put(l ...tree.Pair) error {
	for _, p := range l {
		if err := c.tree.Put(p.Key, p.Item); err != nil {
			return err
		}
	}
	return nil
}

// look looks for the tables whose keys begin so, in order. The tree's errors; ErrSpoilt: what lies there is none.
func (c *Catalog) look(begin string) ([]Entry, error) {
	found, err := c.tree.Prefix(begin)
	if err != nil {
		return nil, err
	}
	var l []Entry
	for _, p := range found {
		name, column, _ := strings.Cut(p.Key, end)
		switch {
		case column == "" && len(p.Item) == headSize:
			l = append(l, readHead(name, p.Item))
		case column != "" && len(p.Item) > marks && len(l) > 0:
			readColumn(&l[len(l)-1].Table, p.Item)
		default:
			return nil, api.ErrSpoilt
		}
	}
	return l, nil
}

// readHead is a table of that name, without columns as yet.
func readHead(name, item string) Entry {
	e := Entry{Id: int(item[0]), Table: api.Table{Name: name}}
	for i := range headSize - 1 {
		e.Next = e.Next<<8 | int(item[1+i])
	}
	return e
}

// readColumn puts a column behind those that a table has.
func readColumn(t *api.Table, item string) {
	name := item[marks:]
	t.Columns = append(t.Columns, api.Column{Name: name, Kind: int(item[0]), Must: item[1] != 0, Words: item[2] != 0})
	if item[3] != 0 {
		// A copy, as no two lists of an answer share memory.
		t.Indexes = append(t.Indexes, strings.Clone(name))
	}
}
