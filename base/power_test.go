package base

import (
	"fmt"
	"testing"

	"concordance/api"
	"concordance/disk"
	"concordance/parse"
)

// scene is what was committed to a disk, and what is said then: the last line of it commits.
type scene struct{ name, ahead, said string }

// tables are those of the scenes, with rows, words and indexes.
const tables = `
	create table t (a int not null, b text words)
	create table u (c int, d text words)
	create index on t (a)
	insert into t values (1, 'black cats'), (2, 'dogs'), (3, 'cows and cats')
	insert into u values (5, 'owls'), (6, null)
`

// scenes are one for each kind of statement, alone, and several of them between begin and commit.
func scenes() []scene {
	return []scene{
		{"create first", "", "create table t (a int, b text words)"},
		{"create", tables, "create table v (a int, b text words)"},
		{"index", tables, "create index on t (b)"},
		{"drop", tables, "drop table t"},
		{"insert", tables, "insert into t values (4, 'owls and dogs'), (5, null), (6, 'cows')"},
		{"insert first", "create table t (a int, b text words)", "insert into t values (1, 'black cats'), (2, 'dogs')"},
		{"update", tables, "update t set a = a + 10, b = 'owls' where b match 'cat'"},
		{"delete", tables, "delete from t where b match 'cat'"},
		{"delete nothing", tables, "delete from t where b match 'horse'"},
		{"several", tables, `
			begin
			insert into t values (4, 'owls and dogs')
			create table v (e int, f text words)
			insert into v values (7, 'horses'), (8, 'sheep')
			update t set b = 'goats' where a = 2
			insert into t values (9, 'pigs'), (null, 'pigs')
			create index on t (b)
			drop table u
			delete from v where e = 8
			commit
		`},
		{"all new", "", `
			begin
			create table t (a int, b text words)
			insert into t values (1, 'black cats')
			commit
		`},
		{"nothing", tables, `
			begin
			insert into t values (null, 'x')
			commit
		`},
	}
}

// play says all of a scene but its last line, and then that one: what came of it.
func (s scene) play(t *testing.T, b *Base) (Answer, error) {
	t.Helper()
	l := lines(s.said)
	for _, text := range l[:len(l)-1] {
		if _, err := b.Say(text); err == api.ErrDevice || b.Down() {
			t.Fatalf("%s: %v, Down() = %v", text, err, b.Down())
		}
	}
	return b.Say(l[len(l)-1])
}

// start is a scene's disk, ahead of what is said; what lies on it, and what lies there when it was said with power.
func (s scene) start(t *testing.T) (d disk.Disk, before, after string) {
	t.Helper()
	h := built(t, s.ahead)
	d, before = *h.disk, h.last
	c := d
	b, err := Open(&c)
	told(t, "Open", err, nil)
	_, err = s.play(t, b)
	told(t, "Say", err, nil)
	return d, before, committed(t, &c)
}

// off lets the power go off at each write of what a scene commits, with each number of bytes that are torn: each is told the disk behind it. Step is by how many bytes more are torn from one to the next one.
func (s scene) off(t *testing.T, d disk.Disk, step int, each func(what string, c disk.Disk)) {
	t.Helper()
	for writes := 0; ; writes++ {
		for torn := 0; torn <= api.PageSize; torn += step {
			c := d
			b, err := Open(&c)
			told(t, "Open", err, nil)
			c.Cut(writes, torn)
			what := fmt.Sprintf("%s, %d writes, %d torn", s.name, writes, torn)
			done := b.Done()
			a, err := s.play(t, b)
			if err == nil {
				if writes < 2 {
					t.Fatalf("%s: nothing was written", what)
				}
				return
			}
			told(t, what, err, api.ErrDevice)
			if a.Rows != nil || a.Count != 0 || !b.Down() || b.Inside() || b.Done() <= done && s.name != "nothing" {
				t.Fatalf("%s: %v, Down() = %v, Inside() = %v, Done() = %d", what, a, b.Down(), b.Inside(), b.Done())
			}
			each(what, c)
		}
	}
}

// TestAllOrNothing: 16.2: wherever the power goes off, whatever is torn: a base that is opened anew has all, or nothing, and it stays so.
func TestAllOrNothing(t *testing.T) {
	for _, s := range scenes() {
		t.Run(s.name, func(t *testing.T) {
			t.Parallel()
			d, before, after := s.start(t)
			seen := map[string]int{}
			s.off(t, d, 1, func(what string, c disk.Disk) {
				has := committed(t, &c)
				seen[has]++
				if has != before && has != after {
					t.Fatalf("%s: it has neither all nor nothing", what)
				}
			})
			if seen[before] == 0 {
				t.Error("it never had nothing")
			}
		})
	}
}

// TestOffInOpening: 16.2: a base that is opened when the power is off, or goes off in that opening, tells ErrDevice, or has all, or nothing; and so has the next one, with power: it is the same.
func TestOffInOpening(t *testing.T) {
	for _, s := range scenes() {
		t.Run(s.name, func(t *testing.T) {
			t.Parallel()
			d, _, _ := s.start(t)
			s.off(t, d, 93, func(what string, c disk.Disk) {
				has := committed(t, &c)
				for writes := range 4 {
					for torn := 0; torn <= api.PageSize; torn += 256 {
						c.Cut(writes, torn)
						b, err := Open(&c)
						if err != nil {
							told(t, what, err, api.ErrDevice)
						} else if all(t, b.pager) != has || b.Down() {
							t.Fatalf("%s: opened without power it has something else, or is Down", what)
						}
						if committed(t, &c) != has {
							t.Fatalf("%s: opened anew it has something else", what)
						}
					}
				}
			})
		})
	}
}

// TestGoesOn: 16.2: behind a power cut a base goes on: what is said anew is done, wholly, and the power may go off again, and again.
func TestGoesOn(t *testing.T) {
	for _, s := range scenes() {
		t.Run(s.name, func(t *testing.T) {
			t.Parallel()
			d, _, _ := s.start(t)
			s.off(t, d, 341, func(what string, c disk.Disk) {
				c.Cut(-1, 0)
				next := scene{name: what + "; then", said: "create table z (a text words)"}
				before := committed(t, &c)
				b, err := Open(&c)
				told(t, "Open", err, nil)
				e := c
				next.off(t, e, 341, func(what string, f disk.Disk) {
					h := anew(t, &f)
					if h.last == before {
						h.says("create table z (a text words) => done 0")
					}
					h.says(`
						insert into z values ('horses'), ('sheep') => done 2
						select a from z where a match 'sheep'      => rows 'sheep'
						begin                                      => done 0
						drop table z                               => done 0
						rollback                                   => done 0
						drop table z                               => done 0
					`)
				})
				if _, err := next.play(t, b); err != nil || all(t, b.pager) != committed(t, &c) {
					t.Fatalf("%s: %v", what, err)
				}
			})
		})
	}
}

// TestNothingOfTheRest: 16.2: of what was neither committed, nor ErrDevice told of, a base that is opened anew has nothing: what was begun only, taken back, or an error; wherever the power goes off.
func TestNothingOfTheRest(t *testing.T) {
	for _, said := range []string{
		"begin\ninsert into t values (4, 'owls')\ncreate table v (a int)\ndrop table u\ncreate index on t (b)",
		"begin\ninsert into t values (4, 'owls')\ncreate table v (a int)\nrollback",
		"insert into t values (4, 'owls'), (5, 'horses'), (null, 'sheep')",
		"update t set a = null, b = 'owls'",
		"begin\ndelete from t\ndrop table t\ncreate table t (a int)\nselect * from t",
		"select * from t where b match 'cat'",
	} {
		h := built(t, tables)
		for writes := range 12 {
			for torn := 0; torn <= api.PageSize; torn += 128 {
				d := *h.disk
				b, err := Open(&d)
				told(t, "Open", err, nil)
				d.Cut(writes, torn)
				for _, text := range lines(said) {
					if _, err := b.Say(text); err == api.ErrDevice || b.Down() {
						t.Fatalf("%s: %v", text, err)
					}
				}
				if committed(t, &d) != h.last {
					t.Fatalf("%s, %d writes, %d torn: on the disk lies something else", said, writes, torn)
				}
			}
		}
	}
}

// TestDown: 16.1, P2: when the power went off, the base is Down, outside, and all that Do is asked is ErrState, whatever it is; Say tells what Parse does ahead of that. Nothing is written any more, even if there is power again.
func TestDown(t *testing.T) {
	for _, said := range []string{
		"insert into t values (4, 'owls')",
		"begin\ninsert into t values (4, 'owls')\ncommit",
		"create table v (a int)",
	} {
		h := built(t, tables)
		h.disk.Cut(1, 5)
		done := h.Done()
		_, err := scene{said: said}.play(t, h.Base)
		told(t, said, err, api.ErrDevice)
		h.disk.Cut(-1, 0)
		lies := *h.disk
		for _, text := range lines(`
			select * from t
			select * from nowhere
			begin
			begin
			commit
			rollback
			create table w (a int)
			create table t (a int)
			create index on t (b)
			drop table t
			drop table nowhere
			insert into t values (5, 'horses')
			insert into t values (null, null)
			update t set a = 1
			update t set x = 1
			delete from t
		`) {
			for range 2 {
				a, err := h.Say(text)
				if err != api.ErrState || a.Rows != nil || a.Count != 0 {
					t.Errorf("%s: %v, %v", text, a, err)
				}
				a, err = h.Do(statement(t, text))
				if err != api.ErrState || a.Rows != nil || a.Count != 0 {
					t.Errorf("Do of %s: %v, %v", text, a, err)
				}
				if !h.Down() || h.Inside() || h.Done() != done+1 {
					t.Fatalf("%s: Down() = %v, Inside() = %v, Done() = %d", text, h.Down(), h.Inside(), h.Done())
				}
			}
		}
		for _, kind := range []int{0, -1, 11} {
			if a, err := h.Do(api.Statement{Kind: kind}); err != api.ErrState || a.Rows != nil || a.Count != 0 {
				t.Errorf("Do of kind %d: %v, %v", kind, a, err)
			}
		}
		a, err := h.Say("select from t")
		_, want := parse.Parse("select from t")
		if got := written(api.Select, a, err); got != written(api.Select, Answer{}, want) {
			t.Errorf("Say of what is no statement: %s", got)
		}
		if h.Store() == nil {
			t.Error("it has no Store")
		} else if _, err := h.Store().Catalog.Names(); err != api.ErrState {
			t.Errorf("Names: %v", err)
		}
		if *h.disk != lies {
			t.Error("something was written")
		}
	}
}

// TestTwoDown: 16.2: a base that is Down changes nothing for the one that is opened behind it.
func TestTwoDown(t *testing.T) {
	first := built(t, tables)
	first.disk.Cut(0, 0)
	_, err := first.Say("delete from t")
	told(t, "Say", err, api.ErrDevice)
	first.disk.Cut(-1, 0)
	second := opened(t, first.disk)
	second.says("select a from t => rows 1, 2, 3\ninsert into t values (4, 'owls') => done 1")
	_, err = first.Say("delete from t")
	told(t, "Say", err, api.ErrState)
	second.says("select a from t where b match 'owl' => rows 4\nbegin => done 0\ndelete from t => done 4\nrollback => done 0")
	opened(t, first.disk).says("select a from t => rows 1, 2, 3, 4")
}
