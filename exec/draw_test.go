package exec

import "strings"

// die: numbers that look drawn, the same each time.
type die uint64

func (d *die) below(n int) int {
	*d = *d*6364136223846793005 + 1442695040888963407
	return int(uint64(*d>>33) % uint64(n))
}

// pick is one of these.
func (d *die) pick(l ...string) string { return l[d.below(len(l))] }

// rare is this one, or, once in a while, that one.
func (d *die) rare(this, that string) string {
	if d.below(60) == 0 {
		return that
	}
	return this
}

// names are columns of numbers, and of texts, those with words first, that a statement may name.
type names struct {
	numbers, texts []string
	words          int
}

// scopes are what may be named of t, of u, and of both.
func scopes(table string) names {
	switch table {
	case "t":
		return names{[]string{"a", "c", "t.a", "t.c"}, []string{"b", "t.b", "e", "t.e"}, 2}
	case "u":
		return names{[]string{"a", "d", "u.a", "u.d"}, []string{"b", "u.b"}, 2}
	case "":
		return names{[]string{"1", "2"}, []string{"'cat'", "'x'"}, 0}
	}
	return names{[]string{"t.a", "u.a", "c", "d", "t.c", "u.d"}, []string{"t.b", "u.b", "e"}, 2}
}

// number is an expression that comes to a number, or nothing, most of the time.
func (d *die) number(n names, deep int) string {
	if deep > 0 && d.below(2) == 0 {
		x, y := d.number(n, deep-1), d.number(n, deep-1)
		return d.pick(x+" + "+y, x+" - "+y, x+" * ("+y+")", "- "+x, "("+x+")", "("+d.condition(n, deep-1)+")")
	}
	if d.below(3) == 0 {
		return d.pick("0", "1", "2", "3", "5", "null", d.pick("4", "4", "4", "9223372036854775807"), d.rare("7", "'text'"))
	}
	return d.rare(d.rare(d.pick(n.numbers...), d.pick(n.texts...)), d.pick("a", "x", "t.x", "v.a", "b"))
}

// text is an expression that comes to a text, or nothing, most of the time.
func (d *die) text(n names) string {
	if d.below(2) == 0 {
		return d.pick("'cat'", "'cats and dogs'", "'x y cat'", "''", "null", "'dog dog'", "'x'", d.rare("'cow'", "7"))
	}
	return d.rare(d.pick(n.texts...), d.pick("b", "x", d.pick(n.numbers...)))
}

// query is what is looked for.
func (d *die) query(deep int) string {
	if deep > 0 && d.below(2) == 0 {
		x, y := d.query(deep-1), d.query(deep-1)
		return d.pick("("+x+")", x+" "+y, x+" OR "+y, x+" NOT "+y, x+" AND "+y)
	}
	return d.rare(d.pick("cat", "dog", "x", "Cats", "c*", `"dog dog"`, `"cats and"`, "cat NEAR dog", "cow"), d.pick("(", "", "x-y", `"`))
}

// condition is one.
func (d *die) condition(n names, deep int) string {
	if deep > 0 && d.below(2) == 0 {
		x, y := d.condition(n, deep-1), d.condition(n, deep-1)
		return d.pick(x+" and "+y, x+" and "+y, "("+x+" or "+y+")", "not ("+x+")", "("+x+") is null", "("+x+") = ("+y+")")
	}
	sign := " " + d.pick("=", "=", "<", "<=", ">", ">=", "<>") + " "
	switch d.below(9) {
	case 0, 1:
		return d.pick(n.numbers...) + sign + d.pick("1", "2", "3", "null", d.rare("4", "'x'"))
	case 2:
		return d.pick("1", "2", "3") + sign + d.pick(n.numbers...)
	case 3:
		return d.text(n) + sign + d.text(n)
	case 4, 5:
		if n.words > 0 {
			return d.rare(d.pick(n.texts[:n.words]...), d.rare(d.pick(n.texts...), d.pick(n.numbers...))) + " match '" + d.query(1) + "'"
		}
	case 6:
		return d.pick(d.number(n, 1), d.text(n)) + d.pick(" is null", " is not null")
	case 7:
		return d.rare(d.number(n, 1), d.text(n))
	}
	return d.number(n, 1) + sign + d.number(n, 1)
}

// item is one of a select.
func (d *die) item(n names) string {
	return d.pick("count(*)", "count("+d.number(n, 1)+")", "sum("+d.rare(d.number(n, 1), d.text(n))+")", "min("+d.text(n)+")", "max("+d.number(n, 0)+")", d.number(n, 1), d.text(n), d.pick(n.numbers...), d.condition(n, 0))
}

// listed are some, with a comma between.
func (d *die) listed(most int, one func() string) string {
	l := []string{one()}
	for range d.below(most) {
		l = append(l, one())
	}
	return strings.Join(l, ", ")
}

// choice is a select.
func (d *die) choice() string {
	first, second := d.rare(d.pick("t", "t", "t", "u"), "v"), ""
	n := scopes(first)
	if d.below(4) == 0 {
		second = d.rare(map[string]string{"t": "u"}[first], d.pick("t", "v"))
		if second == "" {
			second = "t"
		}
		n = scopes("both")
	}
	items := "*"
	if d.below(5) > 0 {
		items = d.listed(3, func() string { return d.item(n) })
	}
	if d.below(3) == 0 {
		items = d.listed(2, func() string { return d.pick(n.numbers...) })
	}
	s := "select " + items + " from " + first
	if second != "" {
		s += " join " + second + " on " + d.pick("t.a = u.a", "t.c = d", "1", d.condition(n, 1))
	}
	if d.below(3) > 0 {
		s += " where " + d.condition(n, 2)
	}
	if d.below(4) == 0 {
		s += " group by " + d.pick(d.pick(n.numbers...), d.text(n), d.number(n, 1))
	}
	if d.below(2) == 0 {
		s += " order by " + d.listed(3, func() string {
			by := d.pick(d.pick(n.numbers...), d.text(n), d.number(n, 1))
			if strings.Contains(s, "match") && d.below(2) == 0 {
				by = "rank"
			}
			return d.rare(by, "rank") + d.pick("", "", " desc", " asc")
		})
	}
	if d.below(4) == 0 {
		s += " limit " + d.pick("0", "1", "2", "5", "250")
	}
	return s
}

// row is one that is put in.
func (d *die) row(table string) string {
	n := scopes("")
	l := []string{d.number(n, 1), d.text(n), d.number(n, 0), d.text(n)}
	if table == "u" {
		l = []string{d.number(n, 1), d.number(n, 0), d.text(n)}
	}
	if d.below(40) == 0 {
		l = l[1:]
	}
	return "(" + strings.Join(l, ", ") + ")"
}

// set is one of an update.
func (d *die) set(table string, n names) string {
	if d.below(3) == 0 {
		return d.rare("b", "x") + " = " + d.text(n)
	}
	other := "c"
	if table == "u" {
		other = "d"
	}
	return d.pick("a", other) + " = " + d.number(n, 1)
}

// statement is any.
func (d *die) statement() string {
	table := d.pick("t", "t", "u")
	n := scopes(table)
	named := d.rare(table, "v")
	where := ""
	if d.below(6) > 0 {
		where = " where " + d.condition(n, 1)
	}
	switch d.below(12) {
	case 0, 1, 5:
		return "insert into " + named + " values " + d.listed(7, func() string { return d.row(table) })
	case 2:
		if where != "" || d.below(5) == 0 {
			return "delete from " + named + where
		}
	case 3, 4:
		return "update " + named + " set " + d.listed(3, func() string { return d.set(table, n) }) + where
	}
	return d.choice()
}
