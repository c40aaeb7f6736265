package base

import (
	"fmt"
	"slices"
	"strings"
	"testing"

	"concordance/api"
	"concordance/disk"
	"concordance/store"
)

// TestOpenNothing: 16.1, 3.1, P2: of no disk there is no base: ErrMissing.
func TestOpenNothing(t *testing.T) {
	b, err := Open(nil)
	if b != nil || err != api.ErrMissing {
		t.Errorf("Open(nil) = %v, %v", b, err)
	}
}

// TestOpenEmpty: 16.1: of an empty disk a base has no table, is neither Inside nor Down, and has Done nothing.
func TestOpenEmpty(t *testing.T) {
	h := opened(t, &disk.Disk{})
	if h.Down() || h.Inside() || h.Done() != 0 {
		t.Errorf("Down() = %v, Inside() = %v, Done() = %d", h.Down(), h.Inside(), h.Done())
	}
	l, err := h.Store().Catalog.Names()
	if len(l) != 0 || err != nil {
		t.Errorf("Names() = %q, %v", l, err)
	}
	h.says(`
		select * from t => error 7
		drop table t    => error 7
		commit          => error 6
		rollback        => error 6
	`)
}

// TestOpenWithoutPower: 16.1, 3.1: a base may be opened without power, as nothing must be written: what was committed may be asked; what would be committed is ErrDevice.
func TestOpenWithoutPower(t *testing.T) {
	h := built(t, `
		create table t (a int, b text words)
		insert into t values (1, 'black cats'), (2, 'dogs')
	`)
	was := h.last
	h.disk.Cut(0, 17)
	h = opened(t, h.disk)
	h.says(`
		select a from t where b match 'cat' => rows 1
		insert into t values ('x', 'y')     => error 1 at 0
		begin                               => done 0
		insert into t values (3, 'cow')     => done 1
		select count(*) from t              => rows 3
		rollback                            => done 0
		select count(*) from t              => rows 2
	`)
	if a, err := h.Say("insert into t values (3, 'cow')"); err != api.ErrDevice || a.Rows != nil || a.Count != 0 {
		t.Errorf("Say = %v, %v", a, err)
	}
	if !h.Down() {
		t.Error("it is not Down")
	}
	h.disk.Cut(-1, 0)
	h = opened(t, h.disk)
	if h.last != was {
		t.Error("without power something was written")
	}
	h.says("insert into t values (3, 'cow') => done 1")
}

// TestOpenAnew: 16.1, 16.2: a base has all that another one committed to its disk ahead: tables, rows and their numbers, indexes, words; and it goes on with them. Done begins anew.
func TestOpenAnew(t *testing.T) {
	h := built(t, `
		create table t (a int not null, b text words)
		create table u (c int)
		insert into t values (1, 'black cats'), (2, 'dogs'), (3, 'two cats')
		create index on t (a)
		delete from t where a = 3
		update t set b = 'cats and dogs' where a = 2
	`)
	for n := range 3 {
		h = opened(t, h.disk)
		if h.Done() != 0 {
			t.Errorf("Done() = %d", h.Done())
		}
		e, err := h.Store().Catalog.Get("t")
		if err != nil || e.Id != 1 || e.Next != 4+n || !slices.Equal(e.Table.Indexes, []string{"a"}) || !e.Table.Columns[0].Must || !e.Table.Columns[1].Words {
			t.Errorf("Get(t) = %v, %v", e, err)
		}
		one := api.Value{Kind: api.Int, Num: 1}
		if l, err := h.Store().Range("t", "a", &one, &one); !slices.Equal(l, []int{1}) || err != nil {
			t.Errorf("Range = %v, %v", l, err)
		}
		h.says(`
			select a from t where b match 'cat' => rows 1, 2
			select a from t where b match 'two' => rows
			select count(*) from u              => rows 0
			create index on t (a)               => error 9
			create table u (a int)              => error 9
			insert into t values (null, '')     => error 13 at 0
		`)
		h.says(fmt.Sprintf("insert into t values (%d, 'cow') => done 1", 10+n))
		if r, err := h.Store().Get("t", 4+n); err != nil || r.Values[0].Num != int64(10+n) {
			t.Errorf("Get(t, %d) = %v, %v", 4+n, r, err)
		}
	}
}

// TestKinds: 16.1, P2: what each kind of statement tells, outside and inside, and Done, Inside and Down behind it: a field that is not named is zero.
func TestKinds(t *testing.T) {
	h := opened(t, &disk.Disk{})
	for _, c := range []struct {
		text, want string
		inside     bool
		done       int
	}{
		{"create table t (a int, b text words)", "done 0", false, 1},
		{"insert into t values (1, 'black cats'), (2, null), (3, 'dogs')", "done 3", false, 2},
		{"create index on t (a)", "done 0", false, 3},
		{"select * from t where a < 3", "rows 1 'black cats', 2 null", false, 3},
		{"update t set a = a + 1 where a > 1", "done 2", false, 4},
		{"delete from t where a = 3", "done 1", false, 5},
		{"create table u (c int)", "done 0", false, 6},
		{"drop table u", "done 0", false, 7},
		// What changes nothing is done, too.
		{"delete from t where a = 77", "done 0", false, 8},
		{"update t set a = 1 where a = 77", "done 0", false, 9},
		{"begin", "done 0", true, 9},
		{"create table u (c int)", "done 0", true, 10},
		{"insert into u values (5), (6)", "done 2", true, 11},
		{"create index on u (c)", "done 0", true, 12},
		{"select c from u order by c desc", "rows 6, 5", true, 12},
		{"update u set c = 7", "done 2", true, 13},
		{"delete from u", "done 2", true, 14},
		{"drop table u", "done 0", true, 15},
		{"delete from t where a = 77", "done 0", true, 16},
		{"begin", "error 6", true, 16},
		{"drop table u", "error 7", true, 16},
		{"select c from u", "error 7", true, 16},
		{"commit", "done 0", false, 16},
		{"commit", "error 6", false, 16},
		{"rollback", "error 6", false, 16},
		{"drop table u", "error 7", false, 16},
		{"begin", "done 0", true, 16},
		{"delete from t", "done 2", true, 17},
		{"rollback", "done 0", false, 17},
		{"rollback", "error 6", false, 17},
		{"commit", "error 6", false, 17},
		{"select * from t", "rows 1 'black cats', 4 'dogs'", false, 17},
		{"nonsense", "error 3 at 0", false, 17},
	} {
		if got := h.say(c.text); got != c.want {
			t.Errorf("%s: %s, want %s", c.text, got, c.want)
		}
		if h.Down() || h.Inside() != c.inside || h.Done() != c.done {
			t.Errorf("%s: Down() = %v, Inside() = %v, Done() = %d, want %v, %d", c.text, h.Down(), h.Inside(), h.Done(), c.inside, c.done)
		}
	}
}

// TestDo: 16.1: Do of what Parse told tells what Say of the text does.
func TestDo(t *testing.T) {
	a, b := opened(t, &disk.Disk{}), opened(t, &disk.Disk{})
	for _, s := range lines(`
		create table t (a int not null, b text words)
		create table t (a int)
		create table v (a int, a text)
		insert into t values (1, 'cats'), (2, 'dogs')
		insert into t values (3, 'cow'), (null, 'cow')
		create index on t (b)
		create index on t (c)
		begin
		begin
		update t set a = 5 where b match 'cat'
		update t set a = null
		select b, a from t order by a desc limit 1
		select c from t
		rollback
		rollback
		commit
		begin
		delete from t where a = 2
		delete from u
		commit
		select * from t
		drop table t
		drop table t
	`) {
		x := statement(t, s)
		got, err := a.Do(x)
		if one, two := written(x.Kind, got, err), b.say(s); one != two {
			t.Errorf("%s: Do tells %s, Say %s", s, one, two)
		}
		if a.Done() != b.Done() || a.Inside() != b.Inside() || all(t, a.pager) != all(t, b.pager) {
			t.Errorf("%s: Do does not do what Say does", s)
		}
	}
}

// TestSayWrong: 16.1, 10.1: of a text that Parse refuses its error is told, with its place; inside, outside, and nothing is done.
func TestSayWrong(t *testing.T) {
	h := built(t, "create table t (a int)")
	wrong := `
		select from t                    => error 3 at 7
		select a from t where            => error 3 at 21
		insert into t values (1), (2     => error 3 at 28
		insert into t values ('x         => error 3 at 22
		create table table (a int)       => error 3 at 13
		insert into t values (9223372036854775808) => error 4 at 22
		drop table seventeenlettersx     => error 4 at 11
		begin begin                      => error 3 at 6
		select ? from t                  => error 3 at 7
		;                                => error 3 at 0
	`
	h.says(wrong)
	if got := h.say(""); got != "error 3 at 0" {
		t.Errorf("nothing: %s", got)
	}
	if got := h.say(strings.Repeat("a ", api.MaxWords+1)); !strings.HasPrefix(got, "error 4") {
		t.Errorf("too many words: %s", got)
	}
	h.says("begin => done 0\ninsert into t values (7) => done 1")
	h.says(wrong)
	h.says("commit => done 0\nselect * from t; => rows 7")
}

// TestBeginTwice: 16.1: Begin inside is ErrState, and changes nothing: what was begun goes on.
func TestBeginTwice(t *testing.T) {
	built(t, "create table t (a int)").says(`
		begin                    => done 0
		insert into t values (1) => done 1
		begin                    => error 6
		insert into t values (2) => done 1
		begin                    => error 6
		rollback                 => done 0
		select * from t          => rows
		begin                    => done 0
		insert into t values (3) => done 1
		begin                    => error 6
		commit                   => done 0
		begin                    => done 0
		rollback                 => done 0
		select * from t          => rows 3
	`)
}

// TestOutside: 16.1: Commit and Rollback outside are ErrState: nothing that was done is taken back.
func TestOutside(t *testing.T) {
	opened(t, &disk.Disk{}).says(`
		rollback                 => error 6
		commit                   => error 6
		create table t (a int)   => done 0
		rollback                 => error 6
		insert into t values (1) => done 1
		rollback                 => error 6
		commit                   => error 6
		insert into t values ('') => error 1 at 0
		rollback                 => error 6
		select * from t          => rows 1
	`)
}

// TestNothing: 16.1: a Commit, or a Rollback, of nothing.
func TestNothing(t *testing.T) {
	h := opened(t, &disk.Disk{})
	h.says(`
		begin    => done 0
		commit   => done 0
		begin    => done 0
		rollback => done 0
	`)
	h.says(`
		create table t (a int)   => done 0
		insert into t values (1) => done 1
		begin                    => done 0
		select * from t          => rows 1
		commit                   => done 0
		begin                    => done 0
		insert into t values (2), (null - 1, 2) => error 1
		commit                   => done 0
		begin                    => done 0
		rollback                 => done 0
		select * from t          => rows 1
	`)
}

// TestSeenInside: 16.1: a select inside sees what was done inside, and one behind it what is left of that; on the disk it is only when it is committed.
func TestSeenInside(t *testing.T) {
	h := built(t, `
		create table t (a int, b text words)
		insert into t values (1, 'cats')
	`)
	h.says(`
		begin                                   => done 0
		insert into t values (2, 'black cats')  => done 1
		select a from t where b match 'cat'     => rows 1, 2
		create index on t (a)                   => done 0
		select b from t where a = 2             => rows 'black cats'
		update t set b = 'dogs' where a = 1     => done 1
		select a from t where b match 'cat'     => rows 2
		select a from t where b match 'dog'     => rows 1
		create table u (c int)                  => done 0
		insert into u values (2)                => done 1
		select b from t join u on a = c         => rows 'black cats'
		delete from t where a = 2               => done 1
		select * from t join u on a = c         => rows
		drop table u                            => done 0
		select * from u                         => error 7
		select * from t                         => rows 1 'dogs'
	`)
	anew(t, h.disk).says(`
		select * from t => rows 1 'cats'
		select * from u => error 7
	`)
	h.says("commit => done 0")
	anew(t, h.disk).says(`
		select * from t                     => rows 1 'dogs'
		select a from t where b match 'dog' => rows 1
		select * from u                     => error 7
		create index on t (a)               => error 9
	`)
}

// TestRollback: 16.1: Rollback takes everything back that was done since Begin: rows, their numbers, words, indexes, tables that came and that went.
func TestRollback(t *testing.T) {
	h := built(t, `
		create table t (a int, b text words)
		create table u (c text words, d int)
		create index on u (d)
		insert into t values (1, 'black cats'), (2, 'dogs')
		insert into u values ('cows', 5), ('cats', 6), (null, 7)
	`)
	was := all(t, h.pager)
	for n := range 3 {
		h.says(`
			begin                                        => done 0
			insert into t values (3, 'cats and cows')    => done 1
			update t set b = 'cows' where a = 2          => done 1
			delete from t where a = 1                    => done 1
			create index on t (a)                        => done 0
			create index on t (b)                        => done 0
			drop table u                                 => done 0
			create table u (d int, c text)               => done 0
			insert into u values (8, 'other')            => done 1
			create table v (e text words)                => done 0
			insert into v values ('cats'), ('dogs')      => done 2
			insert into v values ('cats'), (7)           => error 1 at 0
			select a from t where b match 'cow'          => rows 2, 3
			rollback                                     => done 0
		`)
		if all(t, h.pager) != was {
			t.Fatal("something is other than it was")
		}
		h.says(`
			select * from t                     => rows 1 'black cats', 2 'dogs'
			select a from t where b match 'cat' => rows 1
			select a from t where b match 'cow' => rows
			select * from u where d > 5         => rows 'cats' 6, null 7
			select d from u where c match 'cat' => rows 6
			select * from v                     => error 7
		`)
		if _, err := h.Store().Range("t", "a", nil, nil); err != api.ErrName {
			t.Errorf("Range: %v", err)
		}
		if n%2 == 1 {
			h = opened(t, h.disk)
		}
	}
	// What was taken back was never there: not even the numbers of its rows.
	h.says("insert into t values (4, 'owls') => done 1")
	if r, err := h.Store().Get("t", 3); err != nil || r.Values[0].Num != 4 {
		t.Errorf("Get(t, 3) = %v, %v", r, err)
	}
}

// TestCommit: 16.1: Commit lets all be that was done since Begin, whatever was an error between.
func TestCommit(t *testing.T) {
	h := built(t, "create table t (a int not null, b text words)")
	h.says(`
		begin                                     => done 0
		insert into t values (1, 'cats')          => done 1
		insert into t values (2, 'dogs'), (null, 'cows') => error 13 at 0
		create table u (c int)                    => done 0
		create index on u (d)                     => error 5
		create index on u (c)                     => done 0
		insert into u values (5), (6), ('x')      => error 1 at 0
		insert into u values (5), (6)             => done 2
		update t set a = null                     => error 13 at 0
		update t set a = a + 1                    => done 1
		commit                                    => done 0
	`)
	for _, b := range []*house{h, opened(t, h.disk)} {
		b.says(`
			select * from t                     => rows 2 'cats'
			select a from t where b match 'cat' => rows 2
			select a from t where b match 'dog' => rows
			select * from u where c = 6         => rows 6
		`)
	}
}

// TestCommittedAtOnce: 16.1, 16.2: outside each statement is committed at once: a base that is opened behind it, whatever else was said, has it.
func TestCommittedAtOnce(t *testing.T) {
	h := opened(t, &disk.Disk{})
	for _, c := range [][2]string{
		{"create table t (a int, b text words)", "select * from t => rows"},
		{"insert into t values (1, 'cats'), (2, 'dogs')", "select * from t => rows 1 'cats', 2 'dogs'"},
		{"create index on t (a)", "create index on t (a) => error 9"},
		{"update t set b = 'cows'", "select a from t where b match 'cow' => rows 1, 2"},
		{"delete from t where a = 1", "select * from t => rows 2 'cows'"},
		{"drop table t", "select * from t => error 7"},
	} {
		if got := h.say(c[0]); !strings.HasPrefix(got, "done") {
			t.Errorf("%s: %s", c[0], got)
		}
		anew(t, h.disk).says(c[1])
	}
}

// TestStore: 16.1: Store is what the base has, at any time, also of what was done inside, and of what was taken back.
func TestStore(t *testing.T) {
	h := opened(t, &disk.Disk{})
	s := h.Store()
	has := func(want ...string) {
		t.Helper()
		if l, err := s.Catalog.Names(); !slices.Equal(l, want) || err != nil {
			t.Errorf("Names() = %q, %v, want %q", l, err, want)
		}
	}
	has()
	h.says("create table t (a text words) => done 0")
	has("t")
	h.says("begin => done 0\ncreate table u (a int) => done 0\ninsert into t values ('cats') => done 1")
	has("t", "u")
	if l, err := s.Scan("t"); len(l) != 1 || err != nil {
		t.Errorf("Scan = %v, %v", l, err)
	}
	if l, err := s.Words.Places("t1c0", "cat"); !slices.Equal(l, []api.Place{{Row: 1}}) || err != nil {
		t.Errorf("Places = %v, %v", l, err)
	}
	h.says("rollback => done 0")
	has("t")
	if n, err := s.Words.Many(); n != 0 || err != nil {
		t.Errorf("Many() = %d, %v", n, err)
	}
	if h.Store() != s {
		t.Error("it is another one")
	}
}

// TestTwoBases: 16.2: of two bases, one behind the other, on one disk, the second one has what the first one committed, nothing of what it had begun; two bases on two disks have nothing of one another.
func TestTwoBases(t *testing.T) {
	first := built(t, `
		create table t (a int)
		insert into t values (1)
		begin
		insert into t values (2)
		create table u (a int)
	`)
	second := opened(t, first.disk)
	second.says(`
		select * from t          => rows 1
		select * from u          => error 7
		rollback                 => error 6
		insert into t values (3) => done 1
		begin                    => done 0
		insert into t values (4) => done 1
	`)
	if first.Done() != 4 || !first.Inside() {
		t.Errorf("Done() = %d, Inside() = %v", first.Done(), first.Inside())
	}
	opened(t, first.disk).says("select * from t => rows 1, 3")
	other := opened(t, &disk.Disk{})
	other.says(`
		select * from t          => error 7
		create table t (b text)  => done 0
	`)
	second.says("commit => done 0\nselect * from t => rows 1, 3, 4")
	other.says("select * from t => rows")
}

// TestStoreOfAnother: 16.1: the base is over the trees that a store has: what a store reads of its disk is what was committed.
func TestStoreOfAnother(t *testing.T) {
	h := built(t, `
		create table t (a int, b text words)
		insert into t values (1, 'cats')
	`)
	s, err := store.Over(anew(t, h.disk).pager)
	told(t, "Over", err, nil)
	if l, err := s.Scan("t"); len(l) != 1 || l[0].Id != 1 || l[0].Values[1].Text != "cats" || err != nil {
		t.Errorf("Scan = %v, %v", l, err)
	}
}
