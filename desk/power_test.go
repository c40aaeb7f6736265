package desk

import (
	"fmt"
	"strings"
	"testing"

	"concordance/api"
)

// TestOpen: 17.1: the disk is opened anew: what was committed is there, and nothing else; outside, and with Done from 0 on.
func TestOpen(t *testing.T) {
	talk(t, animals+`
		state                    => false false 5
		open                     => open
		state                    => false false 0
		tables                   => tables t u
		select a, d from u       => rows 1 -5, null 7
		lookup t b cat           => found 1 1, 3 2
		begin                    => done 0
		insert into u values (5, 5) => done 1
		create table v (a int)   => done 0
		state                    => false true 2
		open                     => open
		state                    => false false 0
		tables                   => tables t u
		select a from u          => rows 1, null
		commit                   => error 6
		rollback                 => error 6
		begin                    => done 0
		insert into u values (5, 5) => done 1
		commit                   => done 0
		open                     => open
		open                     => open
		select a from u          => rows 1, null, 5
		begin                    => done 0
		delete from u            => done 3
		rollback                 => done 0
		open                     => open
		select a from u          => rows 1, null, 5
	`)
}

// TestOpenBehindAnError: 17.1: an error ahead changes nothing of what is there.
func TestOpenBehindAnError(t *testing.T) {
	talk(t, animals+`
		insert into u values (5, 5), (6, 'x')  => error 1
		open                                   => open
		select a from u                        => rows 1, null
		begin                                  => done 0
		insert into u values (5, 5), (6, 'x')  => error 1
		nonsense                               => error 3
		open                                   => open
		state                                  => false false 0
		select a from u                        => rows 1, null
	`)
}

// TestCut: 17.1: the power goes off behind so many writes: what is committed then is ErrDevice, and all that is said behind it ErrState, till the disk is opened anew.
func TestCut(t *testing.T) {
	talk(t, animals+`
		cut 0 0                        => cut
		select a from u                => rows 1, null
		insert into u values ('x', 1)  => error 1
		begin                          => done 0
		insert into u values (5, 5)    => done 1
		select a from u                => rows 1, null, 5
		rollback                       => done 0
		state                          => false false 6
		insert into u values (5, 5)    => error 14
		state                          => true false 7
		insert into u values (5, 5)    => error 6
		cut -1 0                       => cut
		insert into u values (5, 5)    => error 6
		state                          => true false 7
		open                           => open
		select a from u                => rows 1, null
		insert into u values (6, 6)    => done 1
		open                           => open
		select a from u                => rows 1, null, 6
	`)
}

// TestCutGivesPower: 17.1: with a number below 0 the power is on again, and stays so; each cut takes the place of the one ahead; open lets it be on, too.
func TestCutGivesPower(t *testing.T) {
	for _, on := range []string{"cut -1 0", "cut -9223372036854775808 -9223372036854775808", "cut -7 9223372036854775807", "cut 9223372036854775807 0", "cut 1000 5", "open"} {
		back := strings.Fields(on)[0]
		text := "cut 0 0 => cut\n cut 0 1024 => cut\n" + on + " => " + back + "\n"
		for i := range 5 {
			text += fmt.Sprintf("create table t%d (a int) => done 0\n insert into t%d values (1) => done 1\n", i, i)
		}
		talk(t, text+"cut 0 0 => cut\n create table x (a int) => error 14\n open => open\n tables => tables t0 t1 t2 t3 t4\n")
	}
}

// TestCutInside: 17.1: inside nothing is written till it is committed.
func TestCutInside(t *testing.T) {
	talk(t, animals+`
		begin                          => done 0
		cut 0 100                      => cut
		insert into u values (5, 5)    => done 1
		drop table t                   => done 0
		tables                         => tables u
		commit                         => error 14
		commit                         => error 6
		rollback                       => error 6
		begin                          => error 6
		state                          => true false 7
		open                           => open
		tables                         => tables t u
		select a from u                => rows 1, null
	`)
}

// TestEachWrite: 17.1, 16.2: wherever the power goes off, and whatever is torn, what is opened anew has all, or nothing.
func TestEachWrite(t *testing.T) {
	const ahead = "create table t (a int, b text words)\ninsert into t values (1, 'cats')\n"
	for _, said := range []string{"insert into t values (2, 'dogs'), (3, 'cats')", "begin\ninsert into t values (2, 'dogs')\ninsert into t values (3, 'cats')\ncommit"} {
		failures, kept := 0, 0
		for writes := 0; ; writes++ {
			done := 0
			for _, torn := range []int{-1, 0, 1, 2, 5, 9, 100, 511, 512, 1000, 1023, 1024, 1025, 1 << 40} {
				got := Session(fmt.Sprintf("%scut %d %d\n%s\nstate\nopen\nselect a from t\nlookup t b cat\ntables\nstate", ahead, writes, torn, said))
				l := strings.Split(strings.TrimSuffix(got, "\n"), "\n")
				end := strings.Join(l[3+strings.Count(said, "\n"):], "; ")
				switch {
				case strings.HasPrefix(end, "done ") && strings.HasSuffix(end, "; open; rows 1, 2, 3; found 1 1, 3 1; tables t; false false 0"):
					done++
				case strings.HasPrefix(end, "error 14; true false ") && strings.HasSuffix(end, "; open; rows 1, 2, 3; found 1 1, 3 1; tables t; false false 0"):
					failures++
					kept++
				case strings.HasPrefix(end, "error 14; true false ") && strings.HasSuffix(end, "; open; rows 1; found 1 1; tables t; false false 0"):
					failures++
				default:
					t.Fatalf("cut %d %d: %s", writes, torn, end)
				}
			}
			if done > 0 {
				if done != 14 || writes == 0 || failures == 0 {
					t.Errorf("behind %d writes: %d done, %d failures ahead, %d of them kept", writes, done, failures, kept)
				}
				break
			}
			if writes > 1000 {
				t.Fatal("it is never done")
			}
		}
	}
}

// TestDown: 17.1: what each line is answered when it is Down.
func TestDown(t *testing.T) {
	const down = `
		state                     => true false 6
		tables                    => error 6
		tables x                  => error 3
		lookup t b cat            => error 6
		lookup x b cat            => error 6
		lookup t b                => error 3
		select * from t           => error 6
		select * from x           => error 6
		select                    => error 3
		select averyveryverylong from t => error 4
		insert into t values (1, 'x', 'y') => error 6
		update t set a = 1        => error 6
		delete from t             => error 6
		create table w (a int)    => error 6
		create index on t (b)     => error 6
		drop table t              => error 6
		begin                     => error 6
		commit                    => error 6
		rollback                  => error 6
		nonsense                  => error 3
		print drop table t        => drop table t
		print x                   => error 3
		wordsof some cats         => words some cat
		help                      => cut help lookup open print state tables wordsof
		open x                    => error 3
		cut x 1                   => error 3
		state                     => true false 6
	`
	talk(t, animals+"cut 0 0 => cut\n drop table t => error 14\n"+down+"cut -1 0 => cut\n"+down+"cut 5 5 => cut\n"+down+`
		open                      => open
		state                     => false false 0
		tables                    => tables t u
		lookup t b cat            => found 1 1, 3 2
		drop table t              => done 0
	`)
	answers(t, append(pairs(t, animals+"cut 0 0 => cut\n drop table t => error 14"), pair{"", "ok"}, pair{"  ", "ok"}, pair{"state", "true false 6"}))
}

// TestTornIsMended: 17.1: the power may go off again and again.
func TestTornIsMended(t *testing.T) {
	text := animals
	for i := range 12 {
		text += fmt.Sprintf(`
			cut 0 %d                   => cut
			delete from t              => error 14
			open                       => open
			lookup t b cat             => found 1 1, 3 2
			update u set d = %d        => done 2
			open                       => open
			select d from u            => rows %d, %d
		`, i*api.PageSize/10, i, i, i)
	}
	talk(t, text)
}
