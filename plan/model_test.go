package plan

import (
	"strings"
	"testing"

	"concordance/api"
	"concordance/eval"
	"concordance/parse"
	"concordance/value"
)

// die: numbers that look drawn, the same each time.
type die uint64

func (d *die) below(n int) int {
	*d = *d*6364136223846793005 + 1442695040888963407
	return int(uint64(*d>>33) % uint64(n))
}

// pick is one of these.
func (d *die) pick(l ...string) string { return l[d.below(len(l))] }

// some is a value, or a column.
func (d *die) some() string {
	return d.pick("a", "b", "c", "d", "t.a", "t.b", "t.c", "1", "2", "3", "0", "null", "'x'", "'y'", "''", "9223372036854775807")
}

// condition is one without anything that is counted; loose: with it, and with texts and columns that are asked to hold.
func (d *die) condition(deep int, loose bool) string {
	if deep > 0 && d.below(3) > 0 {
		x, y := d.condition(deep-1, loose), d.condition(deep-1, loose)
		return d.pick("("+x+") and ("+y+")", "("+x+") and ("+y+")", x+" and "+y, "("+x+") or ("+y+")", "not ("+x+")", "("+x+") is null", "("+x+") "+d.question()+" "+d.some())
	}
	if loose && d.below(4) == 0 {
		return d.pick(d.some(), "- "+d.some()+" = 1", d.some()+" + "+d.some()+" < "+d.some(), "("+d.some()+" * "+d.some()+") is null")
	}
	return d.pick(d.some()+" "+d.question()+" "+d.some(), d.pick("a", "b", "t.a", "c")+" "+d.question()+" "+d.pick("1", "2", "'x'"), "b match '"+d.pick("x", "y", "z")+"'", "t.b match 'x'", d.some()+" is null", d.some()+" is not null", "1", "null")
}

// question is a sign.
func (d *die) question() string { return d.pick("=", "=", "<>", "<", "<=", ">", ">=") }

// rows are some, of the columns a, b, c, d.
func (d *die) rows(n int) (l [][]api.Value) {
	numbers := []api.Value{{}, {Kind: api.Int}, {Kind: api.Int, Num: 1}, {Kind: api.Int, Num: 2}, {Kind: api.Int, Num: 3}, {Kind: api.Int, Num: 1<<63 - 1}, {Kind: api.Int, Num: -1 << 63}}
	texts := []api.Value{{}, {Kind: api.Text}, {Kind: api.Text, Text: "x"}, {Kind: api.Text, Text: "y"}, {Kind: api.Text, Text: "xy"}}
	for range n {
		l = append(l, []api.Value{numbers[d.below(7)], texts[d.below(5)], numbers[d.below(7)], texts[d.below(5)]})
	}
	return l
}

// env tells what a row has: looked for is what a text is.
func env(row []api.Value) eval.Env {
	col := func(name string) (api.Value, error) {
		return row[strings.Index("abcd", strings.TrimPrefix(name, "t."))], nil
	}
	return eval.Env{Col: col, Match: func(name, text string) (bool, error) {
		v, err := col(name)
		return v.Text == text, err
	}}
}

// within says whether a plan finds a row.
func within(p Plan, row []api.Value) bool {
	v := api.Value{}
	if p.Kind != Scan {
		v = row[strings.Index("abcd", p.Column)]
	}
	switch p.Kind {
	case Index:
		return v.Kind != api.Null && (p.Low == nil || value.Compare(v, *p.Low) >= 0) && (p.High == nil || value.Compare(v, *p.High) <= 0)
	case Words:
		return v.Text == p.Text
	}
	return true
}

// TestNoRowIsLeftOut: 14.1, 14.2: what is Safe is no error of any row, and each row that it holds of is found by the plan.
func TestNoRowIsLeftOut(t *testing.T) {
	d := die(14)
	kinds, safes, left := [3]int{}, 0, 0
	for range 20000 {
		s := d.condition(2, d.below(3) == 0)
		e := where(t, s)
		p := Choose(entry("a", "b", "c"), e)
		kinds[p.Kind]++
		if Safe(e) {
			safes++
		} else if shown(p) != scan {
			t.Fatalf("%s: %s", s, shown(p))
		}
		for _, row := range d.rows(20) {
			v, err := eval.Eval(e, env(row))
			is := false
			if err == nil {
				is, _, err = eval.Holds(v)
			}
			if err != nil && Safe(e) {
				t.Fatalf("%s of %v: %v", s, row, err)
			}
			if is && !within(p, row) {
				t.Fatalf("%s of %v: not found by %s", s, row, shown(p))
			}
			if !within(p, row) {
				left++
			}
		}
	}
	// Else nothing would be told by this test.
	if kinds[Scan] < 2000 || kinds[Index] < 1000 || kinds[Words] < 500 || safes < 5000 || left < 20000 {
		t.Errorf("%v, %d, %d", kinds, safes, left)
	}
}

// safeOf says by its promise alone, of each part by itself, what is Safe, and what is PLAIN.
func safeOf(e *api.Expr) (safe, plain bool) {
	if e == nil {
		return true, true
	}
	left, leftPlain := safeOf(e.Left)
	right, rightPlain := safeOf(e.Right)
	switch {
	case e.Code == api.Lit:
		return e.Value.Kind != api.Text, true
	case e.Code == api.Col:
		return false, true
	case e.Code == api.Match:
		safe = true
	case e.Code == api.IsNull:
		safe = leftPlain
	case e.Code == api.Not:
		safe = left
	case e.Code == api.And || e.Code == api.Or:
		safe = left && right
	case e.Code >= api.Eq && e.Code <= api.Ge:
		safe = leftPlain && rightPlain
	}
	return safe, safe
}

// chosen is a plan by its promise alone: of the printed parts, which say just what they are.
func chosen(e *api.Expr) string {
	if safe, _ := safeOf(e); !safe {
		return scan
	}
	around := map[string]string{"=": "=", "<": ">", "<=": ">=", ">": "<", ">=": "<="}
	first, low, high, words := "", map[string]string{}, map[string]string{}, ""
	for _, part := range eval.Parts(e) {
		l := strings.Split(parse.Expr(part), " ")
		if len(l) != 3 {
			continue
		}
		left, sign, right := strings.TrimPrefix(l[0], "t."), l[1], strings.TrimPrefix(l[2], "t.")
		if sign == "match" && words == "" {
			words = "words|" + left + "|-|-|" + strings.Trim(right, "'")
		}
		if strings.Contains("abc", right) && right != "" {
			left, right, sign = right, left, around[sign]
		}
		if !strings.Contains("abc", left) || strings.Contains("abcd", right) || right == "null" || around[sign] == "" {
			continue
		}
		if sign == "=" {
			return "index|" + left + "|" + right + "|" + right + "|"
		}
		if first == "" {
			first = left
		}
		bounds := high
		if sign[0] == '>' {
			bounds = low
		}
		if bounds[left] == "" {
			bounds[left] = right
		}
	}
	if words != "" || first == "" {
		return max(words, scan)
	}
	bound := func(l map[string]string) string { return "-"[min(1, len(l[first])):] + l[first] }
	return "index|" + first + "|" + bound(low) + "|" + bound(high) + "|"
}

// TestModel: 14.1, 14.2: drawn conditions, against what the promises say.
func TestModel(t *testing.T) {
	d := die(3)
	for range 60000 {
		s := d.condition(3, d.below(4) == 0)
		e := where(t, s)
		if safe, _ := safeOf(e); Safe(e) != safe {
			t.Fatalf("%s: Safe is %v", s, !safe)
		}
		if got, want := shown(Choose(entry("a", "b", "c"), e)), chosen(e); got != want {
			t.Fatalf("%s: %s, want %s", s, got, want)
		}
	}
}
