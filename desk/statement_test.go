package desk

import (
	"fmt"
	"strings"
	"testing"

	"concordance/api"
)

// TestStatements: 17.1: each kind of statement: done and Count, or rows.
func TestStatements(t *testing.T) {
	talk(t, `
		create table t (a int not null, b text words) => done 0
		create index on t (a)                         => done 0
		insert into t values (1, 'cat')               => done 1
		insert into t values (2, 'dog'), (3, null), (4, 'it''s a cat') => done 3
		update t set a = a + 10 where a > 2           => done 2
		update t set a = 0 where a = 99               => done 0
		select * from t                               => rows 1 'cat', 2 'dog', 13 null, 14 'it''s a cat'
		begin                                         => done 0
		delete from t where a = 13                    => done 1
		delete from t where a = 13                    => done 0
		select a from t                               => rows 1, 2, 14
		rollback                                      => done 0
		select count(*) from t                        => rows 4
		begin                                         => done 0
		delete from t                                 => done 4
		commit                                        => done 0
		select count(*) from t                        => rows 0
		drop table t                                  => done 0
		select count(*) from t                        => error 7
	`)
}

// TestSelect: 17.1: selects of no rows, of one and of several, with null, numbers and texts.
func TestSelect(t *testing.T) {
	talk(t, `
		create table t (a int, b text)                => done 0
		select * from t                               => rows·
		select a from t where 1                       => rows·
		select a from t limit 0                       => rows·
		select count(*), sum(a), min(b) from t        => rows 0 null null
		insert into t values (null, null)             => done 1
		select * from t                               => rows null null
		select a from t                               => rows null
		select a from t where a = 1                   => rows·
		insert into t values (-9223372036854775807 - 1, ''), (9223372036854775807, ''''), (0, ''''''), (-1, 'it''s, isn''t it'), (5, ' , ') => done 5
		select * from t                               => rows null null, -9223372036854775808 '', 9223372036854775807 '''', 0 '''''', -1 'it''s, isn''t it', 5 ' , '
		select b from t where a = 0                   => rows ''''''
		select b, a, b from t where a = -1            => rows 'it''s, isn''t it' -1 'it''s, isn''t it'
		select a from t order by a desc limit 2       => rows 9223372036854775807, 5
		select 'null', null, '1', 1 from t limit 1    => rows 'null' null '1' 1
		select a = 5 from t where a is not null       => rows 0, 0, 0, 0, 1
		select t.a, u.d from t join u on 1            => error 7
		create table u (d int)                        => done 0
		select t.a, u.d from t join u on 1            => rows·
		insert into u values (7), (8)                 => done 2
		select t.a, u.d from t join u on a = 5        => rows 5 7, 5 8
	`)
	answers(t, []pair{
		{"create table t (a text)", "done 0"},
		{"insert into t values ('\xff\x01\t\r'), ('caf\u00e9')", "done 2"},
		{"select * from t;", "rows '\xff\x01\t\r', 'caf\u00e9'"},
	})
}

// TestManyRows: 17.1: as many rows as may be told, and one more.
func TestManyRows(t *testing.T) {
	all := func(n int) string { return strings.TrimSuffix(strings.Repeat("(1), ", n), ", ") }
	talk(t, `
		create table t (a int)                       => done 0
		create table u (b int)                       => done 0
		insert into u values (1), (2), (3)           => done 3
		insert into t values `+all(40)+` => done 40
		insert into t values `+all(26)+` => done 26
		select a from t join u on 1                  => rows `+strings.TrimSuffix(strings.Repeat("1, ", 198), ", ")+`
		insert into t values (1)                     => done 1
		select a from t join u on 1                  => error 4
		select a from t join u on 1 limit 200        => rows `+strings.TrimSuffix(strings.Repeat("1, ", 200), ", ")+`
	`)
}

// TestErrors: 17.1: an error is answered by its number; its place is not told.
func TestErrors(t *testing.T) {
	twenty := ""
	for i := range 20 {
		twenty += fmt.Sprintf("create table t%d (a int not null, b text words) => done 0\n", i)
	}
	talk(t, twenty+`
		insert into t0 values (1)                     => error 1
		insert into t0 values (1, 1)                  => error 1
		select b + 1 from t0                          => rows·
		insert into t0 values (1, 'x')                => done 1
		select b + 1 from t0                          => error 1
		select 9223372036854775807 + a from t0        => error 2
		x                                             => error 3
		select                                        => error 3
		select * from t0 where b match '('            => error 3
		cut                                           => error 3
		select `+strings.Repeat("(", api.MaxDepth+1)+`1 => error 4
		insert into t0 values (1, '`+strings.Repeat("x", api.MaxLetter+1)+`') => error 4
		select x from t0                              => error 5
		create index on t0 (x)                        => error 5
		commit                                        => error 6
		rollback                                      => error 6
		select * from x                               => error 7
		drop table x                                  => error 7
		create table t0 (a int)                       => error 9
		create table x (a int, a int)                 => error 9
		select * from t0 join t0 on 1                 => error 9
		create table x (a int)                        => error 12
		insert into t0 values (null, 'x')             => error 13
		cut 0 0                                       => cut
		insert into t0 values (2, 'x')                => error 14
		insert into t0 values (2, 'x')                => error 6
		open                                          => open
		select a from t0                              => rows 1
	`)
	if got := failed(api.ErrSpoilt); got != "error 15" {
		t.Errorf("%q", got)
	}
}

// TestErrorsChangeNothing: 17.1, 16.1: behind an error all is as it was ahead of it.
func TestErrorsChangeNothing(t *testing.T) {
	talk(t, animals+`
		insert into t values (7, 'owls', null), (null, 'owls', null) => error 13
		update t set a = a + 9223372036854775805, b = 'owls'         => error 2
		delete from t where b                                        => error 1
		create index on t (a)                                        => error 9
		select a, b, c from t                                        => rows 1 'black cats' 'x', 2 'dogs' null, 3 'cat, cow and cats' 'cats'
		lookup t b owl                                               => found·
		lookup t b cat                                               => found 1 1, 3 2
		insert into t values (7, 'owls', null)                       => done 1
		lookup t b owl                                               => found 4 1
		state                                                        => false false 6
	`)
}

// TestNewDisk: 17.1: there is a new disk at first: nothing of another session is there.
func TestNewDisk(t *testing.T) {
	const empty = "tables => tables\n state => false false 0\n select * from t => error 7\n open => open\n tables => tables\n"
	for range 3 {
		talk(t, empty)
		talk(t, "tables => tables\n"+animals+"cut 0 0 => cut\n drop table t => error 14\n state => true false 6\n")
	}
	talk(t, empty)
}
