package store

import (
	"concordance/api"
	"concordance/value"
)

// A row lies in the tree of rows at the table's number and its own. Its value in an index stands in the key there, between the table's number and the column's, and the row's: so an index has the order of values. All numbers have as many bytes each, whatever they are: so no key begins like that of another table, or column.
const (
	tableSize  = 2 // bytes of a table's number
	columnSize = 1 // bytes of a column's
	rowSize    = 8 // bytes of a row's
)

// write is a row as its item, if it may be in a table of these columns. ErrArg: it has not as many values; of a value, an At at it: ErrArg: it may not be, or is of the other kind; ErrFalse: it is nothing, and must be there; then ErrLimit: the item would have more than MaxItem bytes.
func write(columns []api.Column, l []api.Value) (string, error) {
	if len(l) != len(columns) {
		return "", api.ErrArg
	}
	for i, v := range l {
		if e := wrong(columns[i], v); e != api.OK {
			return "", &api.At{Err: e, Place: i}
		}
	}
	item, err := value.Key(l)
	if err != nil {
		return "", err
	}
	if len(item) > api.MaxItem {
		return "", api.ErrLimit
	}
	return item, nil
}

// wrong is what is wrong with a value of a column (OK: nothing).
func wrong(c api.Column, v api.Value) api.Errno {
	switch {
	case !value.Right(v), v.Kind != api.Null && v.Kind != c.Kind:
		return api.ErrArg
	case v.Kind == api.Null && c.Must:
		return api.ErrFalse
	}
	return api.OK
}

// read is what the row of an item has. ErrSpoilt: no row of these columns is written so.
func read(columns []api.Column, item string) ([]api.Value, error) {
	l, err := value.Read(item)
	if err != nil || len(l) != len(columns) {
		return nil, api.ErrSpoilt
	}
	return l, nil
}

// tableKey is with what the keys of a table's rows begin.
func tableKey(table int) string {
	return number(table, tableSize)
}

// rowKey is where a row stands.
func rowKey(table, row int) string {
	return tableKey(table) + number(row, rowSize)
}

// readRow is the number of the row that stands at a key. ErrSpoilt: none does.
func readRow(key string) (int, error) {
	if len(key) != tableSize+rowSize {
		return 0, api.ErrSpoilt
	}
	return readNumber(key[tableSize:]), nil
}

// columnKey is with what the keys of an index begin.
func columnKey(table, column int) string {
	return number(table, tableSize) + number(column, columnSize)
}

// indexKey is where a row's value stands in the index by a column. Key's errors.
func indexKey(table, column int, r Row) (string, error) {
	s, err := value.Key(r.Values[column : column+1])
	if err != nil {
		return "", err
	}
	return columnKey(table, column) + s + number(r.Id, rowSize), nil
}

// readIndex is the value, and the row, of a key in an index. ErrSpoilt: it is none.
func readIndex(key string) (api.Value, int, error) {
	row := len(key) - rowSize
	if row < tableSize+columnSize {
		return api.Value{}, 0, api.ErrSpoilt
	}
	l, err := value.Read(key[tableSize+columnSize : row])
	if err != nil || len(l) != 1 {
		return api.Value{}, 0, api.ErrSpoilt
	}
	return l[0], readNumber(key[row:]), nil
}

// within says whether a value is not below one, nor above another one (nil: whatever).
func within(v api.Value, low, high *api.Value) bool {
	return (low == nil || value.Compare(v, *low) >= 0) && (high == nil || value.Compare(v, *high) <= 0)
}

// number is a number in so many bytes, which have the order of numbers.
func number(n, size int) string {
	b := make([]byte, size)
	for i := range b {
		b[i] = byte(n >> (8 * (size - 1 - i)))
	}
	return string(b)
}

// readNumber is the number that bytes are.
func readNumber(s string) int {
	n := 0
	for i := range len(s) {
		n = n<<8 | int(s[i])
	}
	return n
}
