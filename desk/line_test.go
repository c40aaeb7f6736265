package desk

import (
	"strings"
	"testing"

	"concordance/api"
)

// TestTooFewOrMany: 17.1: ErrForm, unless just so many words stand behind the first one as are told; then nothing is done.
func TestTooFewOrMany(t *testing.T) {
	for _, s := range []string{
		"cut", "cut 0", "cut -1", "cut 0 0 0", "cut -1 0 x", "cut 0 0 0 0",
		"help x", "help help", "help 1 2",
		"lookup", "lookup t", "lookup t b", "lookup x", "lookup x y",
		"state x", "state state", "state 1 2",
		"tables t", "tables tables", "tables 1 2",
		"open x", "open open", "open -1 0",
		"print",
	} {
		talk(t, animals+"begin => done 0\n delete from u => done 2\n"+s+" => error 3\n"+`
			state           => false true 6
			select * from u => rows·
			commit          => done 0
		`)
	}
	talk(t, animals+`
		cut -1 0                        => cut
		help                            => cut help lookup open print state tables wordsof
		lookup t b cat                  => found 1 1, 3 2
		lookup t b cat AND cow          => found 3 3
		lookup t b ( cat OR dog ) NOT cow NOT black => found 2 1
		state                           => false false 5
		tables                          => tables t u
		wordsof                         => words
		wordsof a                       => words a
		wordsof a b c d                 => words a b c d
		print begin                     => begin
		print select a , b from t where a = 1 => select a, b from t where a = 1
		open                            => open
	`)
}

// TestCutJust: 17.1: a cut with too few words, too many, or other ones leaves the power as it was.
func TestCutJust(t *testing.T) {
	for _, s := range []string{"cut", "cut -1", "cut -1 0 0", "cut -1 x", "cut -1 00", "cut -1 +1", "cut x -1", "cut -01 0", "cut +5 5"} {
		talk(t, "cut 0 0 => cut\n "+s+" => error 3\n create table t (a int) => error 14\n")
	}
	for _, s := range []string{"cut 0", "cut 0 0 0", "cut 0 x", "cut -0 0", "cut 0 -0", "cut 00 0"} {
		talk(t, s+" => error 3\n create table t (a int) => done 0\n")
	}
}

// TestOpenJust: 17.1: nothing may stand behind open: the disk is not opened then, and the power is as it was.
func TestOpenJust(t *testing.T) {
	talk(t, animals+`
		begin           => done 0
		delete from u   => done 2
		cut 0 0         => cut
		open 1          => error 3
		state           => false true 6
		commit          => error 14
		open 1          => error 3
		state           => true false 6
		open            => open
		state           => false false 0
	`)
}

// TestHelp: 17.1: help tells the words, and changes nothing.
func TestHelp(t *testing.T) {
	talk(t, `
		help    => cut help lookup open print state tables wordsof
		begin   => done 0
		help    => cut help lookup open print state tables wordsof
		state   => false true 0
		cut 0 0 => cut
		commit  => error 14
		help    => cut help lookup open print state tables wordsof
	`)
}

// TestPrint: 17.1: Print of Parse of each kind of statement; it is not done.
func TestPrint(t *testing.T) {
	talk(t, `
		print begin                                                  => begin
		print COMMIT ;                                               => commit
		print rollback;                                              => rollback
		print Create  Index on T(A)                                  => create index on t (a)
		print create table t(a int not null,b text words , c text not null words) => create table t (a int not null, b text words, c text not null words)
		print drop table T                                           => drop table t
		print insert into t values(1,'it''s'),(null,-2)              => insert into t values (1, 'it''s'), (null, - 2)
		print delete from t                                          => delete from t
		print delete from t where not(a is null)                     => delete from t where a is not null
		print update t set a=1,b=(a+2)*3 where b match 'cat'         => update t set a = 1, b = (a + 2) * 3 where b match 'cat'
		print select * from t where a+1=2                            => select * from t where a + 1 = 2
		print select count(*),sum(a),t.b from t join u on(t.a=u.a) where a group by b order by rank desc,a asc limit 007 => select count(*), sum(a), t.b from t join u on t.a = u.a where a group by b order by rank desc, a limit 7
		print select a from t where (((a)+(b*2)) = 3) and not (c is null) => select a from t where a + b * 2 = 3 and c is not null
		print select 'Big LETTERS' from t                            => select 'Big LETTERS' from t
		state                                                        => false false 0
		tables                                                       => tables
	`)
}

// TestPrintRefused: 17.1: texts that Parse refuses.
func TestPrintRefused(t *testing.T) {
	deep := func(n int) string { return strings.Repeat("(", n) + "1" + strings.Repeat(")", n) }
	talk(t, `
		print                                       => error 3
		print ;                                     => error 3
		print x                                     => error 3
		print print begin                           => error 3
		print begin begin                           => error 3
		print begin; begin                          => error 3
		print select                                => error 3
		print select 'a from t                      => error 3
		print select a from t where a ? 1           => error 3
		print select a from t limit 1234567890      => error 4
		print select averyveryverylong from t       => error 4
		print select 9223372036854775808 from t     => error 4
		print select 9223372036854775807 from t     => select 9223372036854775807 from t
		print select 12345678901234567890 from t    => error 4
		print select 1`+strings.Repeat("+1", 98)+` from t => select 1`+strings.Repeat(" + 1", 98)+` from t
		print select 1`+strings.Repeat("+1", 98)+` from t; => error 4
		print select '`+strings.Repeat("x", api.MaxLetter)+`' from t  => select '`+strings.Repeat("x", api.MaxLetter)+`' from t
		print select '`+strings.Repeat("x", api.MaxLetter+1)+`' from t => error 4
		print select `+deep(api.MaxDepth)+` from t   => select 1 from t
		print select `+deep(api.MaxDepth+1)+` from t => error 4
		state                                       => false false 0
	`)
}

// TestWordsOf: 17.1: the words of nothing, of one, of several.
func TestWordsOf(t *testing.T) {
	talk(t, `
		wordsof                       => words
		wordsof -                     => words
		wordsof - '' ()               => words
		wordsof cats                  => words cat
		wordsof Jumping-foxes!        => words jump foxe
		wordsof Jumping cats, classes 3 PARTIES => words jump cat class 3 party
		wordsof a a a                 => words a a a
		wordsof longerthantwelveletters => words longerthantw
		wordsof wordsof               => words wordsof
		wordsof help state            => words help state
		wordsof 1 -2 03               => words 1 2 03
	`)
	answers(t, []pair{{"wordsof caf\u00e9 \xff\x00\xfe", "words caf\u00e9 \xff \xfe"}})
}

// TestLookup: 17.1: in which rows of a column something is found, and how often.
func TestLookup(t *testing.T) {
	talk(t, animals+`
		lookup t b cat             => found 1 1, 3 2
		lookup t b Cats            => found 1 1, 3 2
		lookup t b dog             => found 2 1
		lookup t b owl             => found·
		lookup t b cat dog         => found·
		lookup t b cat OR dog      => found 1 1, 2 1, 3 2
		lookup t b cat AND cow     => found 3 3
		lookup t b cat NOT cow     => found 1 1
		lookup t b "black  cats"   => found 1 1
		lookup t b "cats black"    => found·
		lookup t b c*              => found 1 1, 3 3
		lookup t b c   *           => found 1 1, 3 3
		lookup t b cat (           => error 3
		lookup t b cat NEAR cow    => found 3 1
		lookup t b ( cat OR dog ) NOT ( cow ) => found 1 1, 2 1
		insert into t values (9, 'an owl', null) => done 1
		delete from t where a = 1  => done 1
		update t set b = 'owls, owls' where a = 2 => done 1
		lookup t b cat             => found 3 2
		lookup t b owl             => found 2 2, 4 1
		lookup t b dog             => found·
	`)
}

// TestLookupOfOtherColumns: 17.1: of a column that is not Words nothing is found, and it is no error.
func TestLookupOfOtherColumns(t *testing.T) {
	talk(t, animals+`
		lookup t c cats  => found·
		lookup t a 1     => found·
		lookup u a 1     => found·
		lookup u d 5     => found·
		lookup t c (     => error 3
		lookup t a cat-s => error 3
		create table v (x text words, y text words) => done 0
		insert into v values ('a cat', 'a dog')     => done 1
		lookup v x cat   => found 1 1
		lookup v y cat   => found·
		lookup v y dog   => found 1 1
	`)
}

// TestLookupErrors: 17.1: ErrForm of too few words; then Get's errors; ErrName; Parse's errors: the first one is told.
func TestLookupErrors(t *testing.T) {
	deep := func(n int) string { return strings.Repeat("(", n) + "cat" + strings.Repeat(")", n) }
	talk(t, `
		lookup t b cat    => error 7
		lookup t b (      => error 7
	`+animals+`
		lookup x          => error 3
		lookup x y        => error 3
		lookup x b cat    => error 7
		lookup x y (      => error 7
		lookup T b cat    => error 7
		lookup 't' b cat  => error 7
		lookup t, b cat   => error 7
		lookup t.b b cat  => error 7
		lookup averyveryverylongname b cat => error 7
		lookup t x cat    => error 5
		lookup t x (      => error 5
		lookup t B cat    => error 5
		lookup t t.b cat  => error 5
		lookup t d cat    => error 5
		lookup u b cat    => error 5
		lookup t b (      => error 3
		lookup t b )      => error 3
		lookup t b "cat   => error 3
		lookup t b ""     => error 3
		lookup t b OR     => error 3
		lookup t b cat OR => error 3
		lookup t b *      => error 3
		lookup t b black-cats => error 3
		lookup t b `+deep(api.MaxDepth)+`   => found 1 1, 3 2
		lookup t b `+deep(api.MaxDepth+1)+` => error 4
		drop table t      => done 0
		lookup t b cat    => error 7
		state             => false false 6
	`)
	answers(t, append(pairs(t, animals), pair{"lookup \x00 b cat", "error 7"}, pair{"lookup t\x00 b cat", "error 7"}, pair{"lookup t\x00\x01 b cat", "error 7"}, pair{"lookup t \x00 cat", "error 5"}, pair{"lookup \xff \xff \xff", "error 7"}, pair{"lookup t b \xff", "found "}))
}

// TestLookupInside: 17.1: it is asked as it is: with what was done inside, and without what is taken back.
func TestLookupInside(t *testing.T) {
	talk(t, animals+`
		begin                            => done 0
		update t set b = 'owls'          => done 3
		lookup t b owl                   => found 1 1, 2 1, 3 1
		lookup t b cat                   => found·
		create table w (a text words)    => done 0
		insert into w values ('cats')    => done 1
		lookup w a cat                   => found 1 1
		rollback                         => done 0
		lookup t b owl                   => found·
		lookup t b cat                   => found 1 1, 3 2
		lookup w a cat                   => error 7
	`)
}

// TestTables: 17.1: the names of none, one and several, in order.
func TestTables(t *testing.T) {
	talk(t, `
		tables                   => tables
		create table m (a int)   => done 0
		tables                   => tables m
		create table z (a int)   => done 0
		create table B (a int)   => done 0
		create table mm (a int)  => done 0
		create table tables (a int) => done 0
		create table _x (a int)  => done 0
		tables                   => tables _x b m mm tables z
		create table m (a int)   => error 9
		begin                    => done 0
		drop table m             => done 0
		drop table tables        => done 0
		tables                   => tables _x b mm z
		rollback                 => done 0
		tables                   => tables _x b m mm tables z
		drop table mm            => done 0
		tables                   => tables _x b m tables z
	`)
}

// TestState: 17.1: Down, Inside, Done.
func TestState(t *testing.T) {
	talk(t, `
		state                    => false false 0
		create table t (a int)   => done 0
		state                    => false false 1
		insert into t values (1), (2) => done 2
		state                    => false false 2
		select * from t          => rows 1, 2
		select * from x          => error 7
		insert into t values ('x') => error 1
		nonsense                 => error 3
		print drop table t       => drop table t
		state                    => false false 2
		begin                    => done 0
		state                    => false true 2
		begin                    => error 6
		delete from t            => done 2
		state                    => false true 3
		rollback                 => done 0
		state                    => false false 3
		rollback                 => error 6
		commit                   => error 6
		begin                    => done 0
		commit                   => done 0
		state                    => false false 3
		begin                    => done 0
		cut 0 0                  => cut
		state                    => false true 3
		commit                   => error 14
		state                    => true false 3
		state                    => true false 3
		open                     => open
		state                    => false false 0
	`)
}
