package desk

import (
	"maps"
	"slices"
	"strconv"
	"strings"

	"concordance/api"
	"concordance/match"
	"concordance/parse"
	"concordance/word"
)

// cut lets the power go off behind so many writes, with so many bytes torn.
func (d *desk) cut(words []string) string {
	just(words, 2)
	writes, torn := number(words[0]), number(words[1])
	d.disk.Cut(writes, torn)
	return "cut"
}

// open lets the power be on, and opens the disk anew.
func (d *desk) open(words []string) string {
	just(words, 0)
	d.anew()
	return "open"
}

// print is a statement as it is printed.
func (d *desk) print(words []string) string {
	x, err := parse.Parse(joined(words))
	check(err)
	return parse.Print(x)
}

// wordsOf are the words of a text, as they are looked for.
func (d *desk) wordsOf(words []string) string {
	return listed("words", word.Split(joined(words)))
}

// lookup is in which rows of a table's column something is found, and how often.
func (d *desk) lookup(words []string) string {
	must(len(words) >= 3, api.ErrForm)
	s := d.base.Store()
	e, err := s.Catalog.Get(words[0])
	check(err)
	column := e.Column(words[1])
	must(column >= 0, api.ErrName)
	q, err := match.Parse(joined(words[2:]))
	check(err)
	hits, err := match.Eval(s.Words, e.Words(column), q)
	check(err)
	var l []string
	for _, h := range hits {
		l = append(l, strconv.Itoa(h.Row)+blank+strconv.Itoa(h.Often))
	}
	return "found " + strings.Join(l, comma)
}

// tables are the names of all tables.
func (d *desk) tables(words []string) string {
	just(words, 0)
	names, err := d.base.Store().Catalog.Names()
	check(err)
	return listed("tables", names)
}

// state is how the base stands.
func (d *desk) state(words []string) string {
	just(words, 0)
	b := d.base
	return joined([]string{strconv.FormatBool(b.Down()), strconv.FormatBool(b.Inside()), strconv.Itoa(b.Done())})
}

// help are the words that lines begin with that are no statements.
func (d *desk) help(words []string) string {
	just(words, 0)
	return joined(slices.Sorted(maps.Keys(d.does)))
}

// say does a statement.
func (d *desk) say(line string) string {
	x, err := parse.Parse(line)
	check(err)
	a, err := d.base.Do(x)
	check(err)
	if x.Kind == api.Select {
		return "rows " + written(a.Rows)
	}
	return "done " + strconv.Itoa(a.Count)
}

// just throws, unless just so many words stand there.
func just(words []string, n int) {
	must(len(words) == n, api.ErrForm)
}

// listed is a word, and others behind it.
func listed(first string, others []string) string {
	return joined(slices.Concat([]string{first}, others))
}

// written are rows as they are told.
func written(rows [][]api.Value) string {
	var l []string
	for _, row := range rows {
		var values []string
		for _, v := range row {
			values = append(values, parse.Literal(v))
		}
		l = append(l, joined(values))
	}
	return strings.Join(l, comma)
}
