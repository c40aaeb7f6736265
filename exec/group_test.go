package exec

import (
	"fmt"
	"slices"
	"strings"
	"testing"
)

// TestOneGroup: 15.2: with an item other than Plain, and no Group, all rows are one, also if there are none.
func TestOneGroup(t *testing.T) {
	h := usual(t)
	h.says(`
		select count(*) from t => rows 4
		select count(a), count(b), count(c), count(1), count(null), count(a + c) from t => rows 3 3 3 4 0 2
		select sum(a), sum(c), sum(1), sum(null), sum(- a) from t => rows 6 8 4 null -6
		select min(a), max(a), min(b), max(b), min(c), max(c) from t => rows 1 3 'cat x' 'x' 1 5
		select min(null), max(null), min('x'), max(1) from t => rows null null 'x' 1
		select a, count(*), b from t => rows 1 4 'cat x'
		select a, 7, max(a) from t where a > 1 => rows 2 7 3
		select a + c, sum(a * c) from t => rows 6 7
		select count(*) from t where a = 2 => rows 1
		select sum(a), min(a), max(a), count(a) from t where a = 2 => rows 2 2 2 1
		select sum(a), min(a), max(a), count(a), count(*) from t where a is null => rows null null null 0 1
		select count(*), t.a, d from t join u on t.a = d => rows 2 1 1
		select count(*) from t order by a => rows 4
		select count(*) from t where b match 'cat' order by rank, c desc => rows 2
		select count(*) from t limit 0 => rows
	`)
	// Of no rows.
	h.says(`
		select count(*) from t where 0 => rows 0
		select count(*), count(a), sum(a), min(b), max(c) from t where a > 9 => rows 0 0 null null null
		select a, count(*), 7, 'x' from t where 0 => rows null 0 null null
		select b + 1, sum(b), min(b + 1), count(b + 1) from t where 0 => rows null null null 0
		select count(*) from t where 0 order by a, b + 1 => rows 0
		select count(*) from t where b match 'dog' order by rank => rows 0
		select a from t where 0 => rows
		select * from t where 0 => rows
		delete from t => done 4
		select count(*), sum(a) from t => rows 0 null
		select a, b from t => rows
		select * from t => rows
	`)
}

// TestItemsOfGroups: 15.2: Sum counts from 0 on, so that a text is an error; Min and Max take whatever there is, by the order of values.
func TestItemsOfGroups(t *testing.T) {
	built(t, "create table t (a int, b text, c int)",
		"insert into t values (1, 'b', 9223372036854775807), (2, null, 1), (3, 'a', null), (4, '', - 9223372036854775807 - 1)").says(`
		select sum(b) from t => error 1
		select sum(b) from t where a = 1 => error 1
		select sum(b) from t where a = 2 => rows null
		select sum('x') from t => error 1
		select sum('x') from t where 0 => rows null
		select sum('') from t where a = 4 => error 1
		select min(b), max(b) from t => rows '' 'b'
		select min(b), max(b) from t where a = 2 => rows null null
		select min(c), max(c) from t => rows -9223372036854775808 9223372036854775807
		select sum(c) from t => error 2
		select sum(c) from t where a <> 2 => rows -1
		select sum(c) from t where a = 1 => rows 9223372036854775807
		select sum(c) from t where a = 4 => rows -9223372036854775808
		select sum(c - 1) from t where a < 3 => rows 9223372036854775806
		select sum(c) from t where a < 3 => error 2
		select sum(c), sum(b) from t => error 2
		select sum(b), sum(c) from t => error 1
		select min(c + 1) from t => error 2
		select max(b + 1) from t => error 1
		select count(b + 1) from t => error 1
		select count(b + 1) from t where a = 2 => rows 0
		select sum(c + 1) from t where a > 1 => rows -9223372036854775805
		select sum(c + 1) from t where a < 3 => error 2
		select a, sum(c), b from t where a > 2 => rows 3 -9223372036854775808 'a'
		select sum(b = 'a'), sum(b is null), count(b = 'a') from t => rows 1 1 3
	`)
}

// TestErrorsOfItems: 15.2: item by item; of each row by row what it comes to, then what is counted with it. Plain is asked of the first row alone.
func TestErrorsOfItems(t *testing.T) {
	h := built(t, "create table t (a int, b text, c int)",
		"insert into t values (1, null, 1), (2, null, 9223372036854775807), (3, 'x', 1), (4, null, 9223372036854775807)")
	h.says(`
		select sum(c) from t => error 2
		select sum(b + 1) from t => error 1
		select sum(c), sum(b + 1) from t => error 2
		select sum(b + 1), sum(c) from t => error 1
		select max(b + 1), min(c + 1) from t => error 1
		select min(c + 1), max(b + 1) from t => error 2
		select sum(c + (b + 1 is null)) from t => error 2
		select sum(c - 2 + (b + 1 is null)) from t => error 1
		select sum(c - 1 + (b + 1 is null)) from t where a > 1 => error 1
		select b + 1, count(*) from t => rows null 4
		select c + 1, count(*) from t => rows 2 4
		select c + 1, count(*) from t where a > 1 => error 2
		select c + 1, sum(b) from t => error 1
		select c + 1, sum(b) from t where a > 1 => error 2
		select count(*) from t order by b + 1 => rows 4
		select count(*) from t where a > 2 order by b + 1 => error 1
		select sum(c) from t where a > 2 order by b + 1 => error 2
		select sum(c) from t where a < 4 order by b + 1 => error 2
		select sum(a) from t where a > 2 order by b + 1 => error 1
	`)
	// Groups stand in order, and so do their errors: 1 of the first one, 2 of the other.
	h.says(`
		select sum(c), b + 1 from t where a > 2 group by b is null => error 1
		select sum(c + 1), b + 1 from t where a > 2 group by b is not null => error 2
		select b + 1 from t group by 1 => rows null
		select b + 1 from t group by b => error 1
		select a from t group by 1 order by b + 1 => rows 1
		select a from t group by b order by b + 1 => error 1
	`)
}

// TestGroups: 15.2: by what Group comes to, in that order; rows that are put together stay as they stood.
func TestGroups(t *testing.T) {
	built(t, "create table t (a int, b text, c int)",
		"insert into t values (3, 'y', 1), (1, 'x', 2), (null, 'y', 3), (3, null, 4), (1, 'X', 5), (null, null, 6), (- 2, '', 7)").says(`
		select a, count(*) from t group by a => rows null 2, -2 1, 1 2, 3 2
		select b, count(*) from t group by b => rows null 2, '' 1, 'X' 1, 'x' 1, 'y' 2
		select a, c, sum(c), min(c), max(c) from t group by a => rows null 3 9 3 6, -2 7 7 7 7, 1 2 7 2 5, 3 1 5 1 4
		select c from t group by a => rows 3, 7, 2, 1
		select * from t group by a => rows null 'y' 3, -2 '' 7, 1 'x' 2, 3 'y' 1
		select a from t group by a => rows null, -2, 1, 3
		select b, count(a), sum(a) from t group by b => rows null 1 3, '' 1 -2, 'X' 1 1, 'x' 1 1, 'y' 1 3
		select count(*) from t group by 1 => rows 7
		select count(*) from t group by null => rows 7
		select count(*) from t group by 'x' => rows 7
		select c from t group by 1 => rows 1
		select a is null, count(*) from t group by a is null => rows 0 5, 1 2
		select count(*), a from t where b is not null group by a => rows 1 null, 1 -2, 2 1, 1 3
		select count(*), a * a from t group by a * a => rows 2 null, 2 1, 1 4, 2 9
		select count(*), c from t group by c > 3 => rows 3 1, 4 4
		select count(*) from t where 0 group by a => rows
		select sum(a), a from t where 0 group by 1 => rows
		select a from t where 0 group by 1 => rows
		select * from t where 0 group by a => rows
		select a from t group by b + 1 => error 1
		select count(*) from t where b is null group by b + 1 => rows 2
		select a from t group by a * 9223372036854775807 => error 2
		select a from t where a = 1 group by a * 9223372036854775807 => rows 1
		select sum(c) from t group by a order by a desc => rows 5, 7, 7, 9
		select a from t group by a order by c => rows 3, 1, null, -2
		select a from t group by a order by c desc limit 2 => rows -2, null
		select a from t group by a limit 3 => rows null, -2, 1
	`)
}

// TestGroupsOfTwos: 15.2: twos are put together, too, as they were found.
func TestGroupsOfTwos(t *testing.T) {
	usual(t).says(`
		select d, count(*), sum(t.a), min(b), max(c) from t join u on 1 group by d => rows null 4 6 'cat x' 5, 1 4 6 'cat x' 5, 2 4 6 'cat x' 5
		select t.a, d, count(d) from t join u on t.a <> u.a group by t.a => rows 1 1 2, 2 2 1, 3 1 1
		select * from t join u on 1 group by u.a => rows 1 'cat x' 5 null 1, 1 'cat x' 5 1 2, 1 'cat x' 5 2 3
		select * from u join t on d = 2 group by d => rows 2 3 1 'cat x' 5
	`)
}

// TestOrder: 15.3: by the first thing, those that are the same by the next one, upwards or downwards; those that are the same stay as they stood.
func TestOrder(t *testing.T) {
	built(t, "create table t (a int, b text, c int)",
		"insert into t values (2, 'x', 1), (1, 'y', 2), (null, null, 3), (2, 'X', 4), (1, 'x', 5), (null, '', 6), (- 1, 'xx', 7)").says(`
		select c from t order by a => rows 3, 6, 7, 2, 5, 1, 4
		select c from t order by a asc => rows 3, 6, 7, 2, 5, 1, 4
		select c from t order by a desc => rows 1, 4, 2, 5, 7, 3, 6
		select c from t order by b => rows 3, 6, 4, 1, 5, 7, 2
		select c from t order by b desc => rows 2, 7, 1, 5, 4, 6, 3
		select c from t order by a, b => rows 3, 6, 7, 5, 2, 4, 1
		select c from t order by a, b desc => rows 6, 3, 7, 2, 5, 1, 4
		select c from t order by a desc, b => rows 4, 1, 5, 2, 7, 3, 6
		select c from t order by a desc, b desc => rows 1, 4, 2, 5, 7, 6, 3
		select c from t order by b, a => rows 3, 6, 4, 5, 1, 7, 2
		select c from t order by 1 => rows 1, 2, 3, 4, 5, 6, 7
		select c from t order by 1 desc => rows 1, 2, 3, 4, 5, 6, 7
		select c from t order by null desc, 'x' desc, c desc => rows 7, 6, 5, 4, 3, 2, 1
		select c from t order by a is null, c desc => rows 7, 5, 4, 2, 1, 6, 3
		select c from t order by - c => rows 7, 6, 5, 4, 3, 2, 1
		select c from t order by a = 1 desc, a, c desc => rows 5, 2, 7, 4, 1, 6, 3
		select a, c from t order by a, a desc, c => rows null 3, null 6, -1 7, 1 2, 1 5, 2 1, 2 4
		select 7 from t order by c => rows 7, 7, 7, 7, 7, 7, 7
		select a, count(*) from t group by a order by a desc => rows 2 2, 1 2, -1 1, null 2
		select a, count(*) from t group by a order by c = 7 desc => rows -1 1, null 2, 1 2, 2 2
		select c from t order by b + 1 => error 1
		select c from t order by 'x' + 1 limit 0 => error 1
		select c from t where b = 'x' order by a => rows 5, 1
		select c from t where 0 order by b + 1 => rows
	`)
}

// TestManyStayAsTheyStood: 15.2, 15.3: lines that are the same, and rows that are put together, stay as they stood, also if they are many.
func TestManyStayAsTheyStood(t *testing.T) {
	h := built(t, "create table t (a int, b int)")
	for i := range 90 {
		h.says(fmt.Sprintf("insert into t values (%d, %d) => done 1", 1+i, i%2))
	}
	odd, even := []string{}, []string{}
	for i := 1; i <= 90; i += 2 {
		odd, even = append(odd, fmt.Sprint(i)), append(even, fmt.Sprint(i+1))
	}
	up, down := strings.Join(append(slices.Clone(odd), even...), ", "), strings.Join(append(slices.Clone(even), odd...), ", ")
	h.says(`
		select a from t order by b => rows ` + up + `
		select a from t order by b desc => rows ` + down + `
		select a from t order by b, 1 desc limit 200 => rows ` + up + `
		select a, min(a), max(a), count(*) from t group by b => rows 1 1 89 45, 2 2 90 45
		select a from t group by b => rows 1, 2
		select a from t group by b order by b desc => rows 2, 1
		select a from t where a > 9 group by 1 - b => rows 10, 11
	`)
}

// TestRank: 15.2, 15.3: how often the first Match of Where is found in the first row; ErrName, if Where has none.
func TestRank(t *testing.T) {
	h := built(t, "create table t (a int, b text words, c text words)", "create table u (d int, e text words)",
		"insert into t values (1, 'cat', 'dog dog dog'), (2, 'cat cat cat dog', 'cat'), (3, 'dog dog', null), (4, 'cat cat', 'dog'), (5, 'cow cat', null)",
		"insert into u values (1, 'cat'), (2, 'cat cat'), (3, 'cow'), (4, null)")
	h.says(`
		select a from t where b match 'cat' order by rank => rows 1, 5, 4, 2
		select a from t where b match 'cat' order by rank asc => rows 1, 5, 4, 2
		select a from t where b match 'cat' order by rank desc => rows 2, 4, 1, 5
		select a from t where b match 'cat' order by rank desc, a desc => rows 2, 4, 5, 1
		select a from t where b match 'cat' order by a > 2, rank desc => rows 2, 1, 4, 5
		select a from t where b match 'cat' order by rank desc limit 2 => rows 2, 4
		select a from t where b match 'cat OR dog' order by rank desc => rows 2, 3, 4, 1, 5
		select a from t where b match 'cat OR dog' and c match 'dog' order by rank desc => rows 4, 1
		select a from t where c match 'dog' and b match 'cat OR dog' order by rank desc => rows 1, 4
		select a from t where b match 'cat' or c match 'dog' order by rank => rows 1, 5, 4, 2
		select a from t where b match 'dog' or 1 order by rank desc => rows 3, 2, 1, 4, 5
		select a from t where b match 'dog' or c match 'dog' order by rank desc, a desc => rows 3, 2, 4, 1
		select a from t where not b match 'dog' order by rank desc => rows 1, 4, 5
		select a from t where 1 or a + (b match 'dog') = 2 order by rank desc => rows 3, 2, 1, 4, 5
		select a from t where a > 1 and ((c match 'cat') is null or b match 'cat') order by rank desc => rows 2, 4, 5
		select a from t where (b match 'cat') is not null order by rank desc, rank => rows 2, 4, 1, 5, 3
		select a from t where b match '"cat cat"' order by rank => rows 4, 2
		select a from t where b match 'c*' order by rank desc => rows 2, 4, 5, 1
		select a from t where b match 'cat NEAR cow' or b match 'cat' order by rank desc => rows 5, 1, 2, 4
		select a from t where a = 2 and b match 'cat' order by rank => rows 2
		select a > 2, count(*) from t where b match 'cat' group by a > 2 order by rank desc => rows 1 2, 0 2
		select a, count(*) from t where b match 'cat' group by c order by rank => rows 5 1, 1 1, 4 1, 2 1
		select a from t order by rank => error 5
		select a from t where a = 1 order by a, rank desc => error 5
		select b match 'cat' from t order by rank => error 5
		select a from t group by b match 'cat' order by b match 'cat', rank => error 5
		select a from t join u on b match 'cat' order by rank => error 5
		select a from t where 0 order by rank => error 5
		select a from t where 0 and b match 'cat' order by rank => rows
	`)
	// Of two tables the row of that table counts whose column is asked.
	h.says(`
		select a, d from t join u on 1 where e match 'cat' and b match 'cow' order by rank desc => rows 5 2, 5 1
		select a, d from t join u on e match 'cat' where b match 'cow OR dog' and d = 1 order by rank desc, a => rows 3 1, 2 1, 5 1
		select a, d from u join t on e match 'cat' where b match 'cow OR dog' and d = 1 order by rank desc, a => rows 3 1, 2 1, 5 1
		select a, d from u join t on 1 where t.b match 'cat' and u.e match 'cat' and a <> d order by rank desc, d, a => rows 2 1, 4 1, 4 2, 5 1, 1 2, 5 2
		select a, d from t join u on 1 where u.e match 'cat' and t.b match 'cat' and a <> d order by rank, a => rows 2 1, 4 1, 5 1, 1 2, 4 2, 5 2
	`)
}

// TestLimit: 15.3: at most so many, of those that are in order.
func TestLimit(t *testing.T) {
	usual(t).says(`
		select a from t limit 0 => rows
		select a from t limit 1 => rows 1
		select a from t limit 3 => rows 1, 2, null
		select a from t limit 4 => rows 1, 2, null, 3
		select a from t limit 5 => rows 1, 2, null, 3
		select a from t limit 999999999 => rows 1, 2, null, 3
		select a from t order by a desc limit 2 => rows 3, 2
		select a from t where a > 1 limit 1 => rows 2
		select count(*) from t limit 1 => rows 4
		select count(*), a from t group by a limit 2 => rows 1 null, 1 1
		select t.a, d from t join u on 1 limit 4 => rows 1 1, 1 2, 1 null, 2 1
	`)
}

// TestMaxRows: 15.3: MaxRows lines may be left, one more is ErrLimit; what a Limit leaves out does not count.
func TestMaxRows(t *testing.T) {
	h := built(t, "create table t (a int)", "create table u (b int)", "insert into u values (1), (2), (3)")
	for i := range 67 {
		h.says(fmt.Sprintf("insert into t values (%d) => done 1", 67-i))
	}
	twos := func(n int, order string) string {
		var l []string
		for i := range 201 {
			l = append(l, fmt.Sprintf("%d %d", 67-i/3, 1+i%3))
		}
		if order == "desc" {
			slices.Reverse(l)
		}
		return "rows " + strings.Join(l[:n], ", ")
	}
	h.says(`
		select a, b from t join u on a > 1 or b < 3 => ` + twos(200, "") + `
		select a, b from t join u on 1 => error 4
		select a, b from t join u on 1 where 1 => error 4
		select * from t join u on 1 order by a, b => error 4
		select a, b from t join u on 1 group by a * 4 + b => error 4
		select a, b from t join u on 1 limit 201 => error 4
		select a, b from t join u on 1 limit 999999999 => error 4
		select a, b from t join u on 1 limit 200 => ` + twos(200, "") + `
		select a, b from t join u on 1 order by a, b desc limit 200 => ` + twos(200, "desc") + `
		select a, b from t join u on 1 limit 1 => rows 67 1
		select a, b from t join u on 1 limit 0 => rows
		select count(*) from t join u on 1 => rows 201
		select count(*) from t join u on 1 group by b => rows 67, 67, 67
		select a + 'x' from t join u on 1 => error 1
		select a from t join u on 1 order by 'x' + 1 => error 1
	`)
}
