package exec

import (
	"fmt"
	"slices"
	"strings"
	"testing"

	"concordance/api"
	"concordance/pager"
	"concordance/store"
)

// TestInsert: 15.4: rows are put in one by one: how many; what they have is what expressions come to.
func TestInsert(t *testing.T) {
	h := built(t, "create table t (a int, b text words)")
	h.says(`
		insert into t values (1, 'cat') => done 1
		insert into t values (2, null), (1 + 2 * 3, ''), (null, 'it''s') => done 3
		insert into t values (- 5, 'x'), (not 0, 'y'), (1 = 1 and null, 'z'), (null is null, null) => done 4
		insert into t values (9223372036854775807, 'x'), (- 9223372036854775807 - 1, 'x') => done 2
	`)
	h.has("t", "1 1 'cat'", "2 2 null", "3 7 ''", "4 null 'it''s'", "5 -5 'x'", "6 1 'y'", "7 null 'z'", "8 1 null", "9 9223372036854775807 'x'", "10 -9223372036854775808 'x'")
	h.says("select a from t where b match 'x' => rows -5, 9223372036854775807, -9223372036854775808")
}

// TestInsertErrors: 15.4: row by row, value by value, each CHECKED, then asked; then Insert's errors, with their places.
func TestInsertErrors(t *testing.T) {
	h := built(t, "create table t (a int not null, b text words, c int)")
	h.says(`
		insert into t values (a, 'x', 1) => error 5
		insert into t values (t.a, 'x', 1) => error 5
		insert into t values (1, b, 1) => error 5
		insert into t values (1, b match 'x', 1) => error 5
		insert into t values (1 + x, 'x', 1) => error 5
		insert into t values ('x' + 1, x, 1) => error 1
		insert into t values (x, 'x' + 1, 1) => error 5
		insert into t values (1 + 9223372036854775807, 'x' + 1, x) => error 2
		insert into t values ('x' + 1 + x, 1, 1) => error 5
		insert into t values (1, 'x') => error 1
		insert into t values (1, 'x', 2, 3) => error 1
		insert into t values ('x', 1) => error 1
		insert into t values (1, 2, x) => error 5
		insert into t values (1, 2, 'x' * 2) => error 1
		insert into t values (1, 2, 3) => error 1 at 1
		insert into t values ('x', 2, 3) => error 1 at 0
		insert into t values (1, 'x', 'y') => error 1 at 2
		insert into t values (null, 'x', 3) => error 13 at 0
		insert into t values (null, 2, 3) => error 13 at 0
		insert into t values (1, 2, 3), (x, 1, 1) => error 1 at 1
		insert into t values (1, 'x', 3), (x, 1, 1) => error 5
		insert into t values (1, 'x', 3), (2, 'y', 4), (null, 'z', 5) => error 13 at 0
		insert into t values (1, 'x', 3), (2, 'y', 4), (3, 'z') => error 1
		insert into t values (1, 'x', 3), (2, 'y', 4), (3, 'z', 9223372036854775807 * 2), (x, 1, 1) => error 2
	`)
	h.has("t")
	long := "'" + strings.Repeat("x", 40) + "'"
	h = built(t, "create table t (a text, b text, c text)")
	h.says("insert into t values (" + long + ", " + long + ", '" + long[26:] + ") => error 4")
	h.says("insert into t values (" + long + ", " + long + ", '" + long[27:] + "), ('x', 'y', 'z') => done 2")
	h.says("insert into t values ('x', 'y', 'z'), (" + long + ", " + long + ", '" + long[26:] + ") => error 4")
	h.says("update t set c = '" + long[26:] + " => error 4")
}

// TestInsertFull: 15.4: a table of a hundred rows is full, also in the middle of an insert; the rows behind are not asked.
func TestInsertFull(t *testing.T) {
	h := built(t, "create table t (a int)")
	for range 49 {
		h.says("insert into t values (1), (2) => done 2")
	}
	h.says(`
		insert into t values (1), (2), (3) => error 12
		insert into t values (1), (2), (3), (x) => error 12
		insert into t values (1), (2), (x), (3) => error 5
		insert into t values (1), (2), ('x'), (3) => error 1 at 0
		insert into t values (1), (2) => done 2
		insert into t values (3) => error 12
		insert into t values ('x') => error 1 at 0
		insert into t values (x) => error 5
		delete from t where a = 1 => done 50
		insert into t values (3), (4) => done 2
		select count(*), sum(a) from t => rows 52 107
	`)
	if rows, err := h.Scan("t"); err != nil || rows[51].Id != 102 {
		t.Errorf("%v, %v", rows, err)
	}
}

// TestPartOfAnInsert: 15.4, P2: what an insert told of an error left there is taken back by the pager, wholly.
func TestPartOfAnInsert(t *testing.T) {
	h := built(t, "create table t (a int, b text words)", "create index on t (a)", "insert into t values (1, 'cat')")
	ahead, m := h.all(), h.pager.Mark()
	if got := h.do("insert into t values (2, 'dog'), (3, 'cow'), (x, 'pig'), (4, 'hen')"); got != "error 5" {
		t.Errorf("%s", got)
	}
	if err := h.pager.Back(m); err != nil {
		t.Errorf("Back: %v", err)
	}
	h.unchanged("insert", ahead)
	h.says(`
		select * from t => rows 1 'cat'
		select a from t where b match 'dog OR cow OR cat' => rows 1
		select a from t where a > 0 => rows 1
		insert into t values (2, 'dog') => done 1
	`)
	h.has("t", "1 1 'cat'", "2 2 'dog'")
}

// TestDelete: 15.4: all that are found are taken out: how many.
func TestDelete(t *testing.T) {
	for _, way := range indexings("t", "a", "b", "c") {
		h := usual(t, way...)
		h.says(`
			delete from t where a = 9 => done 0
			delete from t where 0 => done 0
			delete from t where null => done 0
			delete from t where 'x' => error 1
			delete from t where b => error 1
			delete from t where x = 1 => error 5
			delete from t where u.a = 1 => error 5
			delete from t where a = 1 and b + 1 = 2 => error 1
			delete from t where t.a = 2 => done 1
			delete from t where t.a = 2 => done 0
			select a from t => rows 1, null, 3
			delete from t where b match 'x' and a > 1 => done 1
			select * from t => rows 1 'cat x' 5, null null 2
			select a from t where b match 'cat OR x' => rows 1
			insert into t values (7, 'x', 8) => done 1
			delete from t where a is null or a = 7 => done 2
			delete from t => done 1
			delete from t => done 0
			select * from t => rows
			select a from t where b match 'cat OR x' => rows
			select a from t where a > 0 => rows
			select * from u => rows 1 2, 2 3, null 1
			insert into t values (7, 'x', 8) => done 1
		`)
		h.has("t", "6 7 'x' 8")
	}
}

// TestUpdate: 15.4: what is set comes to something as the row was; all are asked ahead of the first change.
func TestUpdate(t *testing.T) {
	for _, way := range indexings("t", "a", "b", "c") {
		h := usual(t, way...)
		h.says(`
			update t set c = 7 where a = 2 => done 1
			update t set c = c + 1 => done 4
			select c from t => rows 6, 8, 3, null
			update t set a = c, c = a => done 4
			select a, c from t => rows 6 1, 8 2, 3 null, null 3
			update t set c = a, a = a + 1, b = 'dog' where t.a >= 6 => done 2
			select * from t => rows 7 'dog' 6, 9 'dog' 8, 3 null null, null 'x' 3
			select a from t where b match 'cat' => rows
			select a from t where b match 'dog' => rows 7, 9
			select c from t where a = 9 => rows 8
			update t set a = a + 2 where a >= 3 => done 3
			select a from t => rows 9, 11, 5, null
			select c from t where a = 9 => rows 6
			update t set b = null where b match 'dog' and a = 9 => done 1
			update t set a = 1 where 0 => done 0
			update t set a = 1 where a = 77 => done 0
			update t set a = null, b = null, c = null => done 4
			select * from t => rows null null null, null null null, null null null, null null null
			select a from t where b match 'dog OR x' => rows
			update t set c = 5 => done 4
			select count(*) from t where c = 5 => rows 4
		`)
		h.has("t", "1 null null 5", "2 null null 5", "3 null null 5", "4 null null 5")
	}
}

// TestUpdateSeesNothingOfItself: 15.4: nor do rows move in front of a change: each is changed once.
func TestUpdateSeesNothingOfItself(t *testing.T) {
	for _, way := range indexings("t", "a", "b") {
		h := built(t, append([]string{"create table t (a int, b text words)", "insert into t values (1, 'cat'), (2, 'dog'), (3, 'cat'), (4, 'dog')"}, way...)...)
		h.says(`
			update t set a = a + 1 where a > 1 => done 3
			select a from t => rows 1, 3, 4, 5
			update t set b = 'cat' where b match 'dog' => done 2
			update t set a = a * 10, b = 'cow' where b match 'cat' and a >= 3 => done 3
			select * from t => rows 1 'cat', 30 'cow', 40 'cow', 50 'cow'
			update t set a = b match 'cow' => done 4
			select a from t => rows 0, 1, 1, 1
		`)
	}
}

// TestUpdateErrors: 15.4: set by set: no such column, set ahead, its E CHECKED; then Where; then what is found, what it comes to, and Update's errors.
func TestUpdateErrors(t *testing.T) {
	h := built(t, "create table t (a int not null, b text words, c int)", "create table u (d int)",
		"insert into t values (1, null, 1), (2, 'x', 9223372036854775807), (3, 'y', 2)")
	h.says(`
		update t set x = 1 => error 5
		update t set d = 1 => error 5
		update t set a = 1, a = 2 => error 9
		update t set a = 1, c = 1, a = x => error 9
		update t set a = x, a = 2 => error 5
		update t set a = 1, x = 2, a = 3 => error 5
		update t set a = 1, a = 3, x = 2 => error 9
		update t set a = u.d => error 5
		update t set a = c match 'x', x = 1 => error 1
		update t set x = c match 'x' => error 5
		update t set a = b match '(' where x = 1 => error 3
		update t set a = 1, a = 2 where x = 1 => error 9
		update t set a = 'x' + 1 where x = 1 => error 5
		update t set a = 'x' where x = 1 => error 5
		update t set a = 'x' where c match 'x' => error 1
		update t set a = 'x' + 1 where c + 1 = 2 => error 2
		update t set a = c + 1 where b => error 1
		update t set a = 'x' + 1 => error 1
		update t set a = 'x' => error 1 at 0
		update t set a = null => error 13 at 0
		update t set b = 1 => error 1 at 1
		update t set c = b => error 1 at 2
		update t set b = null, c = b where a = 1 => done 1
		update t set c = 1 where a = 1 => done 1
		update t set c = 'x', a = null => error 13 at 0
		update t set c = 'x', a = null, b = 1 where a = 2 => error 13 at 0
		update t set c = c + 1 => error 2
		update t set c = c + 1, a = b + 1 => error 2
		update t set a = b + 1, c = c + 1 => error 1
		update t set c = b + 1, a = c + 1 where a > 1 => error 1
		update t set a = null, c = c + 1 => error 2
		update t set a = null where 0 => done 0
		update t set x = 1 where 0 => error 5
		update t set a = 'x' + 1 where 0 => done 0
		select * from t => rows 1 null 1, 2 'x' 9223372036854775807, 3 'y' 2
	`)
}

// TestPartOfAnUpdate: 15.4: an update that is wrong in the middle: the error of the first row that has one; the pager takes back what was changed.
func TestPartOfAnUpdate(t *testing.T) {
	h := built(t, "create table t (a int not null, b text words, c int)", "create index on t (a)",
		"insert into t values (1, 'cat', 1), (2, 'dog', null), (3, 'cow', 3)")
	h.says(`
		update t set a = c, b = 'hen' => error 13 at 0
		update t set a = c where a <> 2 => done 2
		select a from t where b match 'hen' => rows
		select a from t where b match 'cat OR dog OR cow' => rows 1, 2, 3
	`)
	h.has("t", "1 1 'cat' 1", "2 2 'dog' null", "3 3 'cow' 3")
}

// filled is a table of many words: so many rows of ten each.
func filled(t *testing.T, rows int) *house {
	t.Helper()
	h := built(t, "create table t (a int, b text words)")
	for i := range rows {
		h.says(fmt.Sprintf("insert into t values (%d, 'a b c d e f g h i j') => done 1", 1+i))
	}
	return h
}

// TestFullOfWords: 15.4: a statement that is full in the middle is ErrFull, and the pager takes it back.
func TestFullOfWords(t *testing.T) {
	filled(t, 49).says(`
		insert into t values (50, 'a b c d e f g h i j'), (51, 'x') => error 12
		insert into t values (50, 'a b c d e f g h i j'), (51, 'x'), (52, 'x' + 1) => error 12
		insert into t values (50, 'a b c d e f g h i j'), (51, 'x' + 1) => error 1
		insert into t values (50, 'a b c d e'), (51, 'x y') => done 2
		update t set b = 'a b c d e f g' where a >= 50 => error 12
		update t set b = 'a b c d' where a = 51 => done 1
		update t set b = 'a b c d e f g h i j k' where a > 1 => error 12
		update t set b = 'a b c d e f g h i j k' where a = 50 => error 12
		update t set b = 'a b c d e f' where a = 50 => done 1
		insert into t values (52, 'x') => error 12
		update t set b = 'x' => done 51
		select count(*) from t where b match 'x' => rows 51
		insert into t values (52, 'x') => done 1
		delete from t where b match 'x' => done 52
		insert into t values (53, 'x') => done 1
		select * from t => rows 53 'x'
	`)
}

// TestUpdateInOrder: 15.4: rows are changed in order: one that takes room is full, though one behind it would give it.
func TestUpdateInOrder(t *testing.T) {
	h := built(t, "create table t (a int, b text words, c text)", "create table u (d text words)")
	for range 49 {
		h.says("insert into u values ('a b c d e f g h i j') => done 1")
	}
	h.says(`
		insert into t values (1, 'a b c', 'a b c d e f g'), (2, 'a b c d e f g', 'x') => done 2
		update t set b = c => error 12
		update t set b = c where a = 2 => done 1
		update t set b = c => done 2
		delete from t => done 2
		insert into t values (1, 'a b c d e f g', 'x'), (2, 'a b c', 'a b c d e f g h i') => done 2
		update t set b = c => done 2
		select b from t => rows 'x', 'a b c d e f g h i'
	`)
}

// TestDown: 15, P2: if the pager is Down, all tell ErrState, whatever else is wrong.
func TestDown(t *testing.T) {
	h := usual(t)
	h.disk.Cut(0, 0)
	if err := h.pager.Commit(); err != api.ErrDevice {
		t.Fatalf("Commit: %v", err)
	}
	for _, s := range lines(`
		select * from t
		select x from none
		select * from t join u on 1
		select * from t join t on x = 1
		select count(*) from t where b match 'cat' order by rank
		insert into t values (1, 'x', 2)
		insert into t values (x, 1)
		insert into none values (1)
		delete from t
		delete from t where b match 'cat'
		delete from none where x = 1
		update t set a = 1
		update t set a = 1, a = 2 where x = 1
		update none set x = 1
	`) {
		if got := h.do(s); got != "error 6" {
			t.Errorf("%s: %s", s, got)
		}
	}
}

// TestAnew: 15: a statement does what it does, whether its table was committed and opened anew, or not.
func TestAnew(t *testing.T) {
	h := usual(t, "create index on t (a)")
	if err := h.pager.Commit(); err != nil {
		t.Fatalf("Commit: %v", err)
	}
	p, err := pager.Open(h.disk)
	if err != nil {
		t.Fatalf("Open: %v", err)
	}
	s, err := store.Over(p)
	if err != nil {
		t.Fatalf("Over: %v", err)
	}
	h = &house{s, t, h.disk, p}
	h.says(`
		select * from t where b match 'cat' order by rank desc => rows 2 'cats and cat' 1, 1 'cat x' 5
		select c from t where a >= 2 => rows 1, null
		update t set a = 7 where b match 'x' => done 2
		select c from t where a = 7 => rows 5, null
	`)
	if err := p.Rollback(); err != nil {
		t.Fatalf("Rollback: %v", err)
	}
	h.says("select a from t => rows 1, 2, null, 3")
}

// TestNoStore: P1: without a store there is no table.
func TestNoStore(t *testing.T) {
	x := statement(t, "select * from t")
	if rows, err := Select(nil, x); rows != nil || err != api.ErrMissing {
		t.Errorf("Select: %v, %v", rows, err)
	}
	for _, f := range []func(*store.Store, api.Statement) (int, error){Insert, Delete, Update} {
		if n, err := f(nil, x); n != 0 || err != api.ErrMissing {
			t.Errorf("%d, %v", n, err)
		}
	}
}

// TestStrangeStatements: P1: whatever a statement is, no call panics, and each ends.
func TestStrangeStatements(t *testing.T) {
	h := usual(t, "create index on t (a)", "create index on t (b)")
	var parts []*api.Expr
	for code := -1; code <= api.Match+2; code++ {
		parts = append(parts, &api.Expr{Code: code, Name: "b", Value: api.Value{Kind: api.Text, Text: "x"}})
	}
	parts = append(parts, nil, &api.Expr{Code: api.Col}, &api.Expr{Code: api.Col, Name: "."}, &api.Expr{Code: api.Col, Name: "t."}, &api.Expr{Code: api.Col, Name: ".a"}, &api.Expr{Code: api.Col, Name: "t.a.b"}, &api.Expr{Code: api.Lit, Value: api.Value{Kind: 9, Num: 1, Text: "\x00"}})
	whole := slices.Clone(parts)
	for code := -1; code <= api.Match+2; code++ {
		for _, side := range parts {
			for _, other := range []*api.Expr{nil, side, parts[2], parts[api.Match+1]} {
				whole = append(whole, &api.Expr{Code: code, Left: side, Right: other, Name: "a"})
			}
		}
	}
	d := die(15)
	some := func() *api.Expr { return whole[d.below(len(whole))] }
	for i, e := range whole {
		for of := -1; of < 7; of++ {
			x := api.Statement{Kind: of, Table: "t", Where: e, Limit: of - 2, Items: []api.Item{{Of: of, Expr: some()}, {Of: of}}, Rows: [][]*api.Expr{{e, some(), nil}, {e}, nil}, Sets: []*api.Expr{e, some(), nil}}
			if i%2 == 0 {
				x.Other, x.On = "u", some()
			}
			if i%3 == 0 {
				x.Group = some()
			}
			if of > 2 {
				x.Order = []api.Rank{{Expr: some(), Down: true}, {}}
			}
			if of > 4 {
				x.Items, x.Where = nil, some()
			}
			m := h.pager.Mark()
			Select(h.Store, x)
			Insert(h.Store, x)
			Update(h.Store, x)
			x.Sets = x.Sets[:1]
			Update(h.Store, x)
			Delete(h.Store, x)
			if err := h.pager.Back(m); err != nil {
				t.Fatal(err)
			}
		}
	}
	h.says("select count(*) from t => rows 4")
	for _, x := range []api.Statement{{}, {Table: "\x00"}, {Table: "t\x00"}, {Table: strings.Repeat("t", 100)}, {Table: "t", Other: "\x00"}} {
		if _, err := Select(h.Store, x); err != api.ErrMissing {
			t.Errorf("Select: %v", err)
		}
		if _, err := Delete(h.Store, x); err != api.ErrMissing && x.Other == "" {
			t.Errorf("Delete: %v", err)
		}
	}
}

// TestStrangePages: P1: nor, whatever a disk's pages have.
func TestStrangePages(t *testing.T) {
	dice := die(7)
	for n := range 200 {
		h := usual(t, "create index on t (a)", "create index on t (b)", "create index on u (a)")
		for k := 1; k < h.pager.Used(); k++ {
			s, err := h.pager.Read(k)
			if err != nil {
				t.Fatalf("Read: %v", err)
			}
			b := []byte(s)
			for range dice.below(1 + n%20) {
				b[dice.below(len(b))] = byte(dice.below(256))
			}
			if err := h.pager.Write(k, string(b)); err != nil {
				t.Fatalf("Write: %v", err)
			}
		}
		for _, s := range lines(`
			select * from t
			select * from t join u on t.a = u.a
			select c from t where a >= 1
			select b from t where b match 'cat' order by rank
			update t set a = a, b = 'dog' where b match 'x' or a = 2
			insert into t values (1, 'cat', 2), (1, 'cow', 2)
			delete from t where a = 1
			update t set b = 'x'
			delete from t
		`) {
			h.do(s)
		}
	}
}

// TestDeep: P1, Limits: expressions with many parts in one another.
func TestDeep(t *testing.T) {
	h := usual(t)
	deep := statement(t, "select * from t where a = 2").Where
	left := deep
	for range 1 << 15 {
		left = &api.Expr{Code: api.And, Left: left, Right: deep}
	}
	x := statement(t, "select a from t where 1")
	x.Where = left
	if got := h.run(x); got != "rows 2" {
		t.Errorf("%s", got)
	}
}
