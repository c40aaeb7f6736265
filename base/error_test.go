package base

import (
	"fmt"
	"slices"
	"strings"
	"testing"

	"concordance/api"
)

// refused fails, unless statements tell what stands behind => in their lines, all of them errors: outside; inside, where something was done ahead; and, behind that, outside again. (That all is as it was, says sees to.)
func (h *house) refused(done, text string) {
	h.t.Helper()
	h.says(text)
	was := all(h.t, h.pager)
	h.says("begin => done 0\n" + done)
	h.says(text)
	h.says("rollback => done 0")
	if all(h.t, h.pager) != was {
		h.t.Error("something is other than it was")
	}
	h.says(text)
	h.says("begin => done 0\n" + done)
	now := all(h.t, h.pager)
	h.says(text)
	h.says("commit => done 0")
	if all(h.t, h.pager) != now {
		h.t.Error("something is other than it was")
	}
	h.says(text)
}

// some is a base with two tables, indexes, words, and rows.
func some(t *testing.T) *house {
	t.Helper()
	return built(t, `
		create table t (a int not null, b text words, c int)
		create table u (a int, d text)
		create index on t (a)
		create index on t (b)
		insert into t values (1, 'black cats', 5), (2, 'dogs', null), (3, 'cows and cats', 7)
		insert into u values (1, 'x'), (null, 'y')
	`)
}

// TestInsertRefused: 16.1: an insert that is an error, in its first row, in its middle, in its last one: nothing of it is there.
func TestInsertRefused(t *testing.T) {
	some(t).refused("insert into t values (9, 'owls', 9) => done 1", `
		insert into v values (1)                                              => error 7
		insert into t values (null, 'owls', 1), (5, 'owls', 1), (6, 'owls', 1) => error 13 at 0
		insert into t values (4, 'owls', 1), (null, 'owls', 1), (6, 'owls', 1) => error 13 at 0
		insert into t values (4, 'owls', 1), (5, 'owls', 1), (null, 'owls', 1) => error 13 at 0
		insert into t values (4, 7, 1), (5, 'owls', 1), (6, 'owls', 1)        => error 1 at 1
		insert into t values (4, 'owls', 1), (5, 'owls', 'x'), (6, 'owls', 1) => error 1 at 2
		insert into t values (4, 'owls', 1), (5, 'owls', 1), ('x', 'owls', 1) => error 1 at 0
		insert into t values (4, 'owls'), (5, 'owls', 1)                      => error 1
		insert into t values (4, 'owls', 1), (5, 'owls', 1), (6, 'owls', 1, 2) => error 1
		insert into t values (a, 'owls', 1), (5, 'owls', 1)                   => error 5
		insert into t values (4, 'owls', 1), (5, b, 1), (6, 'owls', 1)        => error 5
		insert into t values (4, 'owls', 1), (5, 'owls', c)                   => error 5
		insert into t values (4, 'owls', 1), (5, 'owls', 1 + 'x')             => error 1
		insert into t values (4, 'owls', 1), (9223372036854775807 + 1, 'owls', 1) => error 2
		insert into t values (4, 'owls', 1), (5, b match 'cat', 1)            => error 5
	`)
}

// TestUpdateRefused: 16.1: an update that is an error, in its first row, in its middle, in its last one: nothing of it is there.
func TestUpdateRefused(t *testing.T) {
	some(t).refused("update t set b = 'owls' where a = 3 => done 1", `
		update v set a = 1                       => error 7
		update t set x = 1                       => error 5
		update t set a = 4, c = 1, a = 5         => error 9
		update t set a = 4, c = x                => error 5
		update t set a = 4 where x = 1           => error 5
		update t set a = 4 where a match 'x'     => error 1
		update t set a = 4 where b match '('     => error 3
		update t set b = 'owls', a = c           => error 13 at 0
		update t set b = 'owls', a = c where a > 1 => error 13 at 0
		update t set b = 'owls', a = c where a < 3 => error 13 at 0
		update t set b = 'owls', a = b           => error 1 at 0
		update t set b = 'owls', a = a + 9223372036854775806 => error 2
		update t set b = 'owls', c = c - c + b   => error 1
	`)
}

// TestUpdateRefusedInEachRow: 16.1: an update whose first, middle or last row may not be: rows ahead of it are as they were, with their words and in their indexes.
func TestUpdateRefusedInEachRow(t *testing.T) {
	for wrong := range 5 {
		h := built(t, `
			create table t (a int not null, b text words, c int)
			create index on t (a)
			create index on t (c)
		`)
		for i := range 5 {
			c := fmt.Sprint(10 + i)
			if i == wrong {
				c = "null"
			}
			h.says(fmt.Sprintf("insert into t values (%d, 'cats %d', %s) => done 1", i, i, c))
		}
		h.refused("insert into t values (7, 'more cats', 17) => done 1", `
			update t set a = c, b = 'dogs', c = 0         => error 13 at 0
			update t set a = c, b = 'dogs' where a <= 4   => error 13 at 0
		`)
		h.says(`
			select a from t where b match 'dog'      => rows
			select count(*) from t where b match 'cat' => rows 6
			select a from t where a >= 10            => rows
		`)
	}
}

// TestDeleteRefused: 16.1: a delete that is an error, of which rows ahead were found: none is gone.
func TestDeleteRefused(t *testing.T) {
	some(t).refused("delete from t where a = 1 => done 1", `
		delete from v                          => error 7
		delete from t where x = 1              => error 5
		delete from t where u.a = 1            => error 5
		delete from t where b                  => error 1
		delete from t where a + 9223372036854775804 > 0 or b => error 1
		delete from t where a * 3074457345618258603 > 0 => error 2
		delete from t where c match 'cat'      => error 1
		delete from t where b match 'cat AND'  => error 3
	`)
}

// TestTablesRefused: 16.1, 12.2, 13: creates, indexes and drops that are an error, with their places.
func TestTablesRefused(t *testing.T) {
	some(t).refused("create table w (a int) => done 0\ndrop table w => done 0", `
		create table t (a int)                    => error 9
		create table t (a int, a int)             => error 9 at 1
		create table v (a int, b text, a text)    => error 9 at 2
		create table v (a int, b int, c int, d int, e int, f int, g int) => error 4
		create index on v (a)                     => error 7
		create index on t (x)                     => error 5
		create index on t (a)                     => error 9
		drop table v                              => error 7
	`)
}

// TestSelectRefused: 16.1, 15: the errors of a select; nothing is changed by it.
func TestSelectRefused(t *testing.T) {
	some(t).refused("insert into u values (2, 'z') => done 1", `
		select * from v                           => error 7
		select * from t join t on 1               => error 9
		select a from t join u on 1               => error 9
		select x from t                           => error 5
		select a from t order by rank             => error 5
		select a from t where b match '()'        => error 3
		select sum(b) from t                      => error 1
	`)
}

// TestTooManyTables: 16.1, 12.2: the twenty-first table is ErrFull, inside and outside; there are twenty.
func TestTooManyTables(t *testing.T) {
	h := some(t)
	for i := range 17 {
		h.says(fmt.Sprintf("create table v%d (a int) => done 0", i))
	}
	h.refused("create table last (a int) => done 0\ndrop table last => done 0", "create table t (a int) => error 9")
	h.says("create table w (a int, b text words) => done 0")
	h.refused("drop table w => done 0\ncreate table w (a int) => done 0", "create table x (a int) => error 12")
	if l, err := h.Store().Catalog.Names(); len(l) != 20 || err != nil {
		t.Errorf("Names() = %q, %v", l, err)
	}
}

// values are so many rows, each of these values.
func values(n int, s string) string {
	return strings.Join(slices.Repeat([]string{"(" + s + ")"}, n), ", ")
}

// TestTooManyRows: 16.1, 13.2: the hundred and first row is ErrFull: of an insert whose first, whose middle and whose last row it is nothing is there.
func TestTooManyRows(t *testing.T) {
	for _, had := range []int{100, 98, 97} {
		h := built(t, `
			create table t (a int)
			create index on t (a)
			create table u (a text words)
		`)
		for left := had; left > 0; left -= 20 {
			n := min(left, 20)
			h.says(fmt.Sprintf("insert into t values %s => done %d", values(n, "7"), n))
		}
		h.refused("insert into u values ('cats') => done 1", fmt.Sprintf("insert into t values %s => error 12", values(4, "8")))
		if had < 100 {
			h.says(fmt.Sprintf("insert into t values %s => done %d", values(100-had, "8"), 100-had))
		}
		h.says(`
			insert into t values (9)                    => error 12
			update t set a = 9 where a = 7              => done ` + fmt.Sprint(had) + `
			delete from t where a = 8                   => done ` + fmt.Sprint(100-had) + `
			select count(*) from t where a = 9          => rows ` + fmt.Sprint(had) + `
		`)
	}
}

// TestTooManyWords: 16.1, 13.3: words that have no room are ErrFull: of an insert, and of an update, nothing is there then, neither rows nor words.
func TestTooManyWords(t *testing.T) {
	h := built(t, `
		create table t (a int, b text words)
		create index on t (b)
		create table u (c text words)
	`)
	for n := range 49 {
		h.says(fmt.Sprintf("insert into t values (%d, 'a b c d e f g h i j') => done 1", n))
	}
	h.says("insert into t values (49, 'x'), (50, 'x') => done 2")
	// Eight places are left.
	h.refused("insert into u values ('y y') => done 1\ndelete from u where c match 'y' => done 1", `
		insert into t values (51, 'a b c d e f g h i'), (52, '')                   => error 12
		insert into t values (51, 'a b c d'), (52, 'z z z z z'), (53, '')          => error 12
		insert into t values (51, 'a b c d'), (52, 'z z z z'), (53, ''), (54, 'x') => error 12
		insert into u values ('a b c d'), ('z z z z z')                            => error 12
		update t set b = 'x x x x x x' where a >= 49                               => error 12
		update t set b = 'x x x x x x x x x x' where a <= 2 or a >= 49             => error 12
	`)
	h.says(`
		update t set b = 'x x x x x' where a >= 49 => done 2
		insert into u values ('y')                 => error 12
		insert into u values ('')                  => done 1
		select a from t where b match 'z'          => rows
		select a from t where b match 'x'          => rows 49, 50
		drop table t                               => done 0
		insert into u values ('y y')               => done 1
	`)
}

// long is a value of forty letters.
const long = "'xxxxxxxxxxxxxxxxxxxxxxxxxxxxxxxxxxxxxxxx'"

// laden are tables r, s, and v of two texts, each with ninety rows of forty letters a text, and w, which has none.
func laden(t *testing.T) *house {
	t.Helper()
	h := built(t, `
		create table r (a text, b text)
		create table s (a text, b text)
		create table v (a text, b text)
		create table w (a int, b text)
	`)
	for _, name := range []string{"r", "s", "v"} {
		for range 10 {
			h.says(fmt.Sprintf("insert into %s values %s => done 9", name, values(9, long+", "+long)))
		}
	}
	return h
}

// TestTooManyBytes: 16.1, 13.3: rows that have no room are ErrFull, be it the first, one in the middle, or the last one: nothing of the statement is there then.
func TestTooManyBytes(t *testing.T) {
	h := laden(t)
	// Of a row of r 96 bytes count: 4080 are left, for forty-two, and 48 more.
	for left := 40; left > 0; left -= 20 {
		h.says(fmt.Sprintf("insert into w values %s => done 20", values(20, "7, '"+strings.Repeat("x", 37)+"'")))
	}
	h.says("drop table w => done 0\ncreate table w (a text, b text) => done 0")
	for range 4 {
		h.says(fmt.Sprintf("insert into w values %s => done 10", values(10, long+", "+long)))
	}
	h.refused("delete from w => done 40\ninsert into w values "+values(20, long+", "+long)+" => done 20\ninsert into w values "+values(20, long+", "+long)+" => done 20", fmt.Sprintf(`
		insert into w values %s => error 12
		insert into w values %s => error 12
	`, values(3, long+", "+long), values(7, long+", "+long)))
	h.says(fmt.Sprintf("insert into w values %s => done 2", values(2, long+", "+long)))
	h.refused("update w set a = '', b = '' where a = 'y' => done 0", fmt.Sprintf(`
		insert into w values %s => error 12
		insert into w values (%s, null), (null, '') => error 12
	`, values(1, long+", "+long), long))
	h.says("insert into w values (null, null) => done 1\nselect count(*) from w => rows 43")
}

// TestTooManyIndexes: 16.1, 13.3: what has no room in indexes is ErrFull: of an insert, an update and an index nothing is there then, neither rows, nor an index, nor part of it.
func TestTooManyIndexes(t *testing.T) {
	h := laden(t)
	// Each value takes 55 bytes of the tree of indexes: 300 are left.
	for _, name := range []string{"r", "s", "v"} {
		h.says(fmt.Sprintf("create index on %s (a) => done 0\ncreate index on %s (b) => done 0", name, name))
	}
	h.says(fmt.Sprintf("insert into w values %s => done 20", values(20, "7, "+long)))
	row := long + ", " + long
	h.refused("insert into w values (1, 'x') => done 1\ndelete from w where a = 1 => done 1", fmt.Sprintf(`
		create index on w (b)   => error 12
		create index on w (a)   => error 12
		insert into r values %s => error 12
		insert into s values %s => error 12
	`, values(3, row), values(9, row)))
	h.says(fmt.Sprintf("insert into r values %s => done 2", values(2, row)))
	h.refused("update w set b = 'x' where a = 1 => done 0", fmt.Sprintf(`
		create index on w (b)   => error 12
		create index on w (a)   => error 12
		insert into r values %s => error 12
	`, values(1, row)))
	// What was refused has no index: it is asked as ever.
	if _, err := h.Store().Range("w", "a", nil, nil); err != api.ErrName {
		t.Errorf("Range: %v", err)
	}
	// Of values that take less than they may, the last rows are the ones that have no room.
	h.says("update s set a = 'x', b = 'x' where a = " + long + " => done 90")
	h.says("create index on w (a) => done 0\ncreate index on w (b) => done 0")
	h.says("update w set b = 'x' => done 20\nupdate s set a = " + long + " => done 90")
	h.refused("update w set a = 8 => done 20", `
		update s set b = '`+strings.Repeat("x", 38)+`' => error 12
		update s set b = `+long+` => error 12
	`)
	h.says("select count(*) from s where b = 'x' => rows 90")
}

// TestNoPageLeft: 16.1: if the pager has no page left, what needs one is ErrFull, and nothing of it is there.
func TestNoPageLeft(t *testing.T) {
	for spare := range 3 {
		h := built(t, "create table t (a int, b text words)\ncreate index on t (b)\ninsert into t values (1, 'cats')")
		for h.pager.Used() < api.MaxPages-spare {
			if _, err := h.pager.Alloc(); err != nil {
				t.Fatal(err)
			}
		}
		told(t, "Commit", h.pager.Commit(), nil)
		h.last = all(t, h.pager)
		refused := 0
		for n := 0; refused < 1; n++ {
			s := fmt.Sprintf("insert into t values %s", values(9, fmt.Sprintf("%d, 'word%d and %d'", n, n, n+50)))
			if got := h.say(s); got == "error 12" {
				refused++
				h.refused("delete from t where a = -1 => done 0", s+" => error 12")
			} else if got != "done 9" {
				t.Fatalf("%s: %s", s, got)
			}
		}
	}
}
