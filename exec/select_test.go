package exec

import (
	"fmt"
	"slices"
	"strings"
	"testing"
)

// usual is a store of two tables: t has texts, u has a column of the same name.
func usual(t *testing.T, more ...string) *house {
	t.Helper()
	return built(t, append([]string{
		"create table t (a int, b text words, c int)",
		"create table u (d int, a int)",
		"insert into t values (1, 'cat x', 5), (2, 'cats and cat', 1), (null, null, 2), (3, 'x', null)",
		"insert into u values (1, 2), (2, 3), (null, 1)",
	}, more...)...)
}

// TestTables: 15.1: tables that are missing, the first one, then the other one, then one in both places; ahead of all columns.
func TestTables(t *testing.T) {
	usual(t).says(`
		select * from none => error 7
		select x from none => error 7
		select * from none join t on 1 => error 7
		select * from t join none on 1 => error 7
		select x from t join none on y = 1 => error 7
		select * from none join none on 1 => error 7
		select * from t join t on 1 => error 9
		select x from t join t on y = 1 order by rank => error 9
		select * from u join u on u.a = u.d => error 9
		insert into none values (x) => error 7
		delete from none where x = 1 => error 7
		update none set x = y where z = 1 => error 7
		select * from t1 => error 7
	`)
}

// TestColumns: 15.1: a column of none, of the one, of the other, of both; with a table's name ahead, and without.
func TestColumns(t *testing.T) {
	usual(t).says(`
		select a from t => rows 1, 2, null, 3
		select t.a from t => rows 1, 2, null, 3
		select T.A from T => rows 1, 2, null, 3
		select x from t => error 5
		select d from t => error 5
		select t.x from t => error 5
		select t.d from t => error 5
		select u.a from t => error 5
		select u.d from t => error 5
		select a.a from t => error 5
		select none.a from t => error 5
		select a.t from t => error 5
		select a from t join u on 1 => error 9
		select b, a from t join u on 1 => error 9
		select t.a, u.a, c, d from t join u on 1 limit 1 => rows 1 2 5 1
		select u.b from t join u on 1 => error 5
		select t.d from t join u on 1 => error 5
		select v.a from t join u on 1 => error 5
		select t.a, u.a, c, d from u join t on 1 limit 2 => rows 1 2 5 1, 2 2 1 1
	`)
}

// TestCheckedInOrder: 15.1, 15.2: all items, On, Where, Group, the order, each from left to right; then a rank of nothing.
func TestCheckedInOrder(t *testing.T) {
	h := usual(t)
	h.says(`
		select b, x, a from t join u on 1 => error 5
		select b, a, x from t join u on 1 => error 9
		select count(x), a from t join u on 1 => error 5
		select sum(a), min(x) from t join u on 1 => error 9
		select x from t join u on a = 1 where a = 1 group by a order by a => error 5
		select a from t join u on x = 1 where x = 1 group by x order by x => error 9
		select b from t join u on x = 1 where a = 1 group by a order by a => error 5
		select b from t join u on a = 1 where x = 1 group by x order by x => error 9
		select b from t join u on 1 where x = 1 group by a order by a => error 5
		select b from t join u on 1 where a = 1 group by x order by x => error 9
		select b from t join u on 1 where 1 group by x order by a => error 5
		select b from t join u on 1 where 1 group by a order by x => error 9
		select b from t join u on 1 order by c, a, x => error 9
		select b from t join u on 1 order by c desc, x desc, a => error 5
		select * from t join u on 1 order by rank, a => error 9
		select * from t order by a, rank => error 5
		select * from t order by rank, c match 'x' => error 1
		select * from t order by rank, b match '(' => error 3
		select b from t join u on a = x => error 9
		select b from t join u on x = a => error 5
		select b from t join u on (1 + a) * - x = 2 => error 9
		select b from t join u on not (x is null) or a = 1 => error 5
		select b from t join u on 1 and (0 or (x) is not null and a = 1) => error 5
	`)
	// What is wrong with a name is told ahead of what an expression comes to, and of tables without rows, too.
	h.says(`
		select 'x' + 1 from t where x = 1 => error 5
		select * from t where 'x' and x = 1 => error 5
		select * from t where 0 and x = 1 => error 5
		select * from t join u on 0 where x = 1 => error 5
		select x from t where 0 => error 5
		select * from t limit 0 => rows
		select x from t limit 0 => error 5
		delete from t => done 4
		select x from t => error 5
		select b + 1 from t => rows
		select * from t where c match 'x' => error 1
		select * from t order by rank => error 5
		delete from t where x = 1 => error 5
		update t set a = x => error 5
	`)
}

// TestMatchChecked: 15.1: of a Match its column, then whether it is Words, then what is looked for; and nothing of what stands behind it.
func TestMatchChecked(t *testing.T) {
	deep := strings.Repeat("(", 13) + "x" + strings.Repeat(")", 13)
	h := usual(t, "create table w (e text words, f text, a text words)", "insert into w values ('cat', 'cat', 'dog')")
	h.says(`
		select * from t where c match 'x' => error 1
		select * from t where a match '(' => error 1
		select * from w where f match 'cat' => error 1
		select * from t where x match 'y' => error 5
		select * from t where x match '(' => error 5
		select * from t where u.b match 'x' => error 5
		select * from t where b match '' => error 3
		select * from t where b match '(' => error 3
		select * from t where t.b match 'x-y' => error 3
		select * from t where b match '"x' => error 3
		select * from t where b match 'OR' => error 3
		select * from t where b match '` + deep + `' => error 4
		select * from t where b match '` + deep[1:26] + `' => rows 1 'cat x' 5, 3 'x' null
		select * from t where b match 'x' and b match '(' and x = 1 => error 3
		select * from t where b match 'x' and x = 1 and b match '(' => error 5
		select * from t where not (c match 'x') or x = 1 => error 1
		select b match '(' from t => error 3
		select b from t group by b match '(' => error 3
		select b from t order by b match '(' => error 3
		select b from t join u on b match '(' => error 3
		select * from t join w on a match 'x' => error 9
		select * from t join w on w.a match 'dog' and f match 'x' => error 1
		select t.a from t join w on w.a match 'dog' and t.b match 'x' and e match 'cat' => rows 1, 3
		delete from t where b match '(' => error 3
		delete from t where c match 'x' => error 1
		update t set a = b match '(' => error 3
		update t set a = 1 where b match '(' => error 3
		insert into t values (b match 'x', 'x', 1) => error 5
		insert into t values (b match '(', 'x', 1) => error 5
	`)
}

// TestMatchHolds: 15.1: a Match holds of the rows in which it is found, as a number that may be counted with.
func TestMatchHolds(t *testing.T) {
	usual(t).says(`
		select a from t where b match 'cat' => rows 1, 2
		select a from t where b match 'Cats' => rows 1, 2
		select a from t where b match 'cat x' => rows 1
		select a from t where b match 'cat OR x' => rows 1, 2, 3
		select a from t where b match 'cat NOT x' => rows 2
		select a from t where b match '"cat and"' => rows 2
		select a from t where b match 'ca*' => rows 1, 2
		select a from t where b match 'dog' => rows
		select a from t where not b match 'cat' => rows null, 3
		select a from t where b match 'cat' or c = 2 => rows 1, 2, null
		select a from t where b match 'x' and b match 'cat' => rows 1
		select a from t where not (b match 'x' or b match 'and') => rows null
		select b match 'cat', (b match 'x') + 1 from t => rows 1 2, 1 1, 0 1, 0 2
		select a from t where (b match 'cat') = (b match 'x') => rows 1, null
		select sum(b match 'cat'), count(b match 'x') from t => rows 2 4
		select count(*), b match 'x' from t group by b match 'x' => rows 2 0, 2 1
		select a from t order by b match 'cat' desc, a => rows 1, 2, null, 3
		select t.a, d from t join u on t.b match 'cat' and u.a = 3 => rows 1 2, 2 2
		select t.a, d from u join t on t.b match 'cat' and u.a = 3 => rows 1 2, 2 2
		select t.a from u join t on 1 where t.b match 'x' and u.d = 2 => rows 1, 3
		update t set c = b match 'cat' => done 4
		select c from t => rows 1, 1, 0, 0
	`)
}

// TestMatchAsWordsAre: 15.1: what is found is what rows have now: changed, taken out, put in, and of other tables and columns.
func TestMatchAsWordsAre(t *testing.T) {
	built(t, "create table s (a text words, b text words, n int)", "create table t (a text words, b text words, n int)").says(`
		insert into s values ('cat', 'dog', 1), ('dog', 'cat', 2) => done 2
		insert into t values ('cow', 'cat', 3), ('cat', 'cow', 4), ('dog', 'dog', 5) => done 3
		select n from s where a match 'cat' => rows 1
		select n from s where b match 'cat' => rows 2
		select n from t where a match 'cat' => rows 4
		select n from t where b match 'cat' => rows 3
		select n from t where a match 'cat' or b match 'cat' => rows 3, 4
		select n from t where a match 'dog' and b match 'dog' => rows 5
		select s.n, t.n from s join t on s.a match 'cat' and t.a match 'dog' => rows 1 5
		select s.n, t.n from s join t on s.a match 'cat' where t.b match 'cat' => rows 1 3
		update t set a = 'cat cow' where n = 5 => done 1
		select n from t where a match 'cat' => rows 4, 5
		select n from t where a match 'cow cat' => rows 5
		delete from t where a match 'cat' => done 2
		select n from t where a match 'cat' => rows
		insert into t values ('cat', null, 6) => done 1
		select n from t where a match 'cat' => rows 6
	`)
}

// TestFound: 15.2: rows of which Where holds: known, and so; by their numbers.
func TestFound(t *testing.T) {
	usual(t).says(`
		select * from t => rows 1 'cat x' 5, 2 'cats and cat' 1, null null 2, 3 'x' null
		select * from u => rows 1 2, 2 3, null 1
		select a from t where 1 => rows 1, 2, null, 3
		select a from t where 7 => rows 1, 2, null, 3
		select a from t where - 1 => rows 1, 2, null, 3
		select a from t where 0 => rows
		select a from t where null => rows
		select a from t where 'x' => error 1
		select a from t where '' => error 1
		select a from t where a => rows 1, 2, 3
		select a from t where a - 1 => rows 2, 3
		select a from t where b => error 1
		select a from t where b is null and b => error 1
		select a from t where 0 and b => error 1
		select a from t where 1 or b => error 1
		select a from t where a = null => rows
		select a from t where not a = null => rows
		select a from t where a is null => rows null
		select a from t where a is not null => rows 1, 2, 3
		select a from t where a <> 2 => rows 1, 3
		select a from t where not a = 2 => rows 1, 3
		select a from t where c > 1 => rows 1, null
		select a from t where a < c => rows 1
		select a from t where a = 1 or c = 2 => rows 1, null
		select a from t where b = 'x' => rows 3
		select a from t where b > 'cat x' => rows 2, 3
		select a from t where a < 'x' => rows 1, 2, 3
		select a from t where b < 9 => rows
		select a from t where a + c = 6 => rows 1
	`)
}

// TestErrorsOfWhere: 15.1, 15.2: the error of the first row that has one, whatever else holds of it.
func TestErrorsOfWhere(t *testing.T) {
	built(t, "create table t (a int, b text, c int)", "insert into t values (1, null, 1), (2, null, 9223372036854775807), (3, 'x', 1), (4, null, 9223372036854775807)").says(`
		select a from t where b + 1 = 2 => error 1
		select a from t where c + 1 = 2 => error 2
		select a from t where b + 1 = 2 or c + 1 = 2 => error 2
		select a from t where c + 1 = 2 or b + 1 = 2 => error 2
		select a from t where c * (a - 2) + (b + 1 is null) = 2 => error 1
		select a from t where a = 1 and b + 1 = 2 => error 1
		select a from t where a = 1 or c + 1 = 2 => error 2
		select a from t where a = 1 and b => error 1
		select a from t where a > 9 and b => error 1
		select a from t where a is null and c * 2 = 0 => error 2
		select a from t where - (0 - c - 1) - 1 = c => error 2
		select a from t where 0 - c - 1 < 0 => rows 1, 2, 3, 4
		select a from t where a <= 2 and c + a > 0 => error 2
		delete from t where a = 1 and b => error 1
		update t set a = 1 where a = 1 and b => error 1
		delete from t where a = 3 => done 1
		select a from t where b => rows
	`)
}

// indexings are ways to have indexes by columns.
func indexings(table string, columns ...string) [][]string {
	ways := [][]string{nil}
	for _, c := range columns {
		ways = append(ways, []string{fmt.Sprintf("create index on %s (%s)", table, c)})
	}
	var all []string
	for _, way := range ways {
		all = append(all, way...)
	}
	return append(ways, all)
}

// TestIndexesChangeNothing: 15.1, 15.2: the same answers, and the same errors, whatever indexes there are.
func TestIndexesChangeNothing(t *testing.T) {
	for _, way := range indexings("t", "a", "b", "c") {
		usual(t, way...).says(`
			select c from t where a = 1 => rows 5
			select c from t where 1 = t.a => rows 5
			select c from t where a = 4 => rows
			select c from t where a = null => rows
			select c from t where a = 'x' => rows
			select c from t where a <> 1 => rows 1, null
			select c from t where a > 1 => rows 1, null
			select c from t where a >= 1 => rows 5, 1, null
			select c from t where 1 < a => rows 1, null
			select c from t where 1 <= a => rows 5, 1, null
			select c from t where a < 2 => rows 5
			select c from t where a <= 2 => rows 5, 1
			select c from t where 2 > a => rows 5
			select c from t where 2 >= a => rows 5, 1
			select c from t where a > 1 and a < 3 => rows 1
			select c from t where a > 3 and a < 1 => rows
			select c from t where a < 3 and a > 1 and a < 2 => rows
			select c from t where a < 'x' => rows 5, 1, null
			select c from t where a > 'x' => rows
			select c from t where b > 1 => rows 5, 1, null
			select c from t where b <= 'cats and cat' and a >= 1 => rows 5, 1
			select c from t where b = 'x' => rows null
			select c from t where b = 'X' => rows
			select c from t where a = 1 and a = 2 => rows
			select c from t where a = 1 or a = 2 => rows 5, 1
			select c from t where not a = 1 => rows 1, null
			select c from t where a = 1 and b match 'cat' => rows 5
			select c from t where b match 'cat' and a = 2 => rows 1
			select c from t where b match 'cat' and a > 2 => rows
			select c from t where a > 0 and b match 'cat' => rows 5, 1
			select c from t where b match 'cat' or a = 3 => rows 5, 1, null
			select a from t where c <= 5 and c >= 2 => rows 1, null
			select a from t where c = 2 and a is null => rows null
			select a from t where a = 1 and b => error 1
			select a from t where b and a = 1 => error 1
			select a from t where a = 1 and b + 1 = 2 => error 1
			select a from t where a = 9 and b + 1 = 2 => error 1
			select a from t where b match 'dog' and c + b = 1 => error 1
			select a from t where b match 'dog' and 'x' => error 1
			select a from t where c > 1 and 9223372036854775807 + c = 1 => error 2
			select a from t where c = 1 and - b = 0 => error 1
			select t.a from t join u on t.a = u.a where t.a = 2 => rows 2
			select t.a, d from t join u on t.a = 1 where u.a > 1 and b match 'cat' => rows 1 1, 1 2
			delete from t where a = 9 and b + 1 = 2 => error 1
			update t set c = 1 where a = 9 and b + 1 = 2 => error 1
			update t set a = a + 1 where a >= 2 => done 2
			select a from t where a >= 2 => rows 3, 4
			select a from t where a = 3 => rows 3
			delete from t where a > 1 and b match 'x' => done 1
			select * from t => rows 1 'cat x' 5, 3 'cats and cat' 1, null null 2
			insert into t values (3, 'cat', 7) => done 1
			select c from t where a = 3 => rows 1, 7
			select c from t where b match 'cat' => rows 5, 1, 7
		`)
	}
}

// TestPlanned: 14.2, 15.2: of one table only those rows are asked that a plan tells; of two all, as On may be an error in any of them.
func TestPlanned(t *testing.T) {
	h := usual(t, "create index on t (a)", "create index on t (c)")
	for _, c := range []struct {
		from, where string
		want        []int
	}{
		{"t", "1", []int{1, 2, 3, 4}},
		{"t", "a = 2", []int{2}},
		{"t", "2 <= t.a and b match 'x'", []int{1, 4}},
		{"t", "2 <= t.a and a < 3", []int{2, 4}},
		{"t", "c >= 2", []int{1, 3}},
		{"t", "a > 3 and a < 1", nil},
		{"t", "b match 'cat' and a > 1 and a = 1", []int{1}},
		{"t", "b match 'dog'", nil},
		{"t", "b = 'x'", []int{1, 2, 3, 4}},
		{"t", "a = 2 and c + 1 = 2", []int{1, 2, 3, 4}},
		{"t", "a = 2 or c = 2", []int{1, 2, 3, 4}},
		{"u", "a = 2", []int{1, 2, 3}},
		{"t join u on 1", "t.a = 2", []int{1, 1, 1, 2, 2, 2, 3, 3, 3, 4, 4, 4}},
	} {
		x := statement(t, "select * from "+c.from+" where "+c.where)
		names := []string{x.Table, x.Other}
		in, err := open(h.Store, names[:1+min(1, len(x.Other))]...)
		if err != nil {
			t.Fatal(err)
		}
		if err := in.check(x.Where); err != nil {
			t.Fatal(err)
		}
		all, err := in.asked(x.Where)
		var got []int
		for _, f := range all {
			got = append(got, f[0].Id)
		}
		if err != nil || !slices.Equal(got, c.want) {
			t.Errorf("%s: %v, %v, want %v", c.where, got, err, c.want)
		}
	}
}

// TestJoins: 15.2: all twos, by the first one's number, then the second one's, of which On holds, and then Where.
func TestJoins(t *testing.T) {
	usual(t).says(`
		select t.a, d from t join u on 1 => rows 1 1, 1 2, 1 null, 2 1, 2 2, 2 null, null 1, null 2, null null, 3 1, 3 2, 3 null
		select t.a, d from u join t on 1 => rows 1 1, 2 1, null 1, 3 1, 1 2, 2 2, null 2, 3 2, 1 null, 2 null, null null, 3 null
		select t.a, d from t join u on t.a = u.a => rows 1 null, 2 1, 3 2
		select t.a, d from t join u on t.a = d => rows 1 1, 2 2
		select t.a, d from t join u on t.a = d where c = 1 => rows 2 2
		select * from t join u on t.a = d => rows 1 'cat x' 5 1 2, 2 'cats and cat' 1 2 3
		select * from u join t on t.a = d => rows 1 2 1 'cat x' 5, 2 3 2 'cats and cat' 1
		select t.a, d from t join u on 0 => rows
		select t.a, d from t join u on null => rows
		select t.a, d from t join u on 'x' => error 1
		select t.a, d from t join u on b => error 1
		select t.a, d from t join u on d where c => rows 1 1, 1 2, 2 1, 2 2, null 1, null 2
		select count(*) from t join u on 5 => rows 12
		select t.a, d from t join u on t.a = d where null => rows
		select t.a, d from t join u on t.a = d where b => error 1
		select t.a, d from t join u on 0 where b => rows
		select t.a, d from t join u on null where 'x' => rows
		select t.a, d from t join u on t.a is null where b => rows
		select t.a, d from t join u on b is null where d + 9223372036854775806 > 0 => error 2
		select t.a, d from t join u on d = 1 and b is null where d + 9223372036854775806 > 0 => rows null 1
		select t.a, d from t join u on b is null or b + 1 = 2 => error 1
		select t.a, d from t join u on d + 9223372036854775806 > 0 where b => error 1
		select t.a, d from t join u on d + 9223372036854775806 > 0 where t.a => error 2
	`)
	h := usual(t, "create table e (x int)")
	h.says(`
		select * from t join e on 1 => rows
		select * from e join t on b => rows
		select * from t join e on b where b => rows
		select count(*), sum(x) from e join t on b => rows 0 null
	`)
}

// TestAlone: 15.2: without a Group, and of Plain items alone, each row is a line: item by item.
func TestAlone(t *testing.T) {
	usual(t).says(`
		select a, c, a, c + 1, 'x', null from t => rows 1 5 1 6 'x' null, 2 1 2 2 'x' null, null 2 null 3 'x' null, 3 null 3 null 'x' null
		select 1 from t => rows 1, 1, 1, 1
		select a = 1, a is null, not a from t => rows 1 0 0, 0 0 0, null 1 null, 0 0 0
		select b + 1 from t => error 1
		select b + 1 from t where b is null => rows null
		select a, c * 9223372036854775807 from t => error 2
		select a, c * 9223372036854775807 from t where c = 1 => rows 2 9223372036854775807
		select - b from t where a = 9 => rows
		select t.a, t.a, b, b from t where a = 1 => rows 1 1 'cat x' 'cat x'
	`)
}

// TestWhichErrorOfLines: 15.2: line by line: item by item, then what it is put in order by, one by one.
func TestWhichErrorOfLines(t *testing.T) {
	h := built(t, "create table t (a int, b text, c int)", "insert into t values (1, null, 9223372036854775807), (2, 'x', 1)")
	h.says(`
		select b + 1, c + 1 from t => error 2
		select b + 1 from t order by c + 1 => error 2
		select c + 1 from t order by b + 1 => error 2
		select a from t order by b + 1, c + 1 => error 2
		select b + 1 from t where a = 2 order by c + 9223372036854775807 => error 1
		select c + 9223372036854775807 from t where a = 2 order by b + 1 => error 2
		select c + 9223372036854775807, b + 1 from t where a = 2 => error 2
		select b + 1, c + 9223372036854775807 from t where a = 2 => error 1
		select a from t where a = 2 order by c + 9223372036854775807, b + 1 => error 2
		select a from t where a = 2 order by b + 1, c + 9223372036854775807 => error 1
		select a from t limit 1 => rows 1
		select b + 1 from t limit 1 => error 1
		select b + 1 from t limit 0 => error 1
		select b + 1 from t order by a limit 1 => error 1
		select a from t order by b + 1 limit 0 => error 1
		select a from t group by b + 1 limit 0 => error 1
	`)
	// What is found, and what it is put together by, is wholly ahead of all lines.
	h.says(`
		select c + 1 from t where b + 1 is null => error 1
		select c + 1 from t group by b + 1 => error 1
		select b + 1 from t group by c + 1 => error 2
		select a from t where b + 1 is null group by c + 1 => error 1
		select c + 1 from t where a = 1 group by b + 1 => error 2
	`)
}
