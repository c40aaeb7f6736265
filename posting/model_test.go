package posting

import (
	"math"
	"slices"
	"testing"

	"concordance/api"
)

// die: numbers that look drawn, the same each time.
type die uint64

func (d *die) below(n int) int {
	*d = *d*6364136223846793005 + 1442695040888963407
	return int(uint64(*d>>33) % uint64(n))
}

// places draws a list that is Right, of few rows and places, so that two lists often have the same ones.
func (d *die) places() []api.Place {
	var l []api.Place
	likely := 1 + d.below(6)
	for row := 1; row <= 4; row++ {
		for at := range 8 {
			if d.below(6) < likely && d.below(3) > 0 {
				l = append(l, api.Place{Row: row, At: at})
			}
		}
	}
	return l[:d.below(len(l)+1)]
}

// wide draws a list that is Right, of rows and places over all that may be.
func (d *die) wide() []api.Place {
	var l []api.Place
	for range d.below(8) {
		p := api.Place{Row: 1 + d.below(1<<(1+d.below(30))), At: d.below(1 << (1 + d.below(30)))}
		if d.below(2) == 0 && len(l) > 0 {
			p.Row = l[len(l)-1].Row
		}
		if d.below(8) == 0 {
			p.At = lastAt - d.below(2)
		}
		if d.below(8) == 0 {
			p.Row = lastRow - d.below(2)
		}
		l = append(l, p)
	}
	slices.SortFunc(l, Compare)
	return slices.Compact(l)
}

// number is a number's bytes, by division.
func number(n int) string {
	if n < 128 {
		return string([]byte{byte(n)})
	}
	return string([]byte{byte(n%128 + 128)}) + number(n/128)
}

// plainWrite is Write of a list that is Right, by its promise alone.
func plainWrite(l []api.Place) string {
	s := ""
	for i, p := range l {
		row, at := 0, 0
		if i > 0 {
			row, at = l[i-1].Row, l[i-1].At
		}
		if row != p.Row {
			s += number(2*(p.Row-row)+1) + number(p.At)
		} else {
			s += number(2 * (p.At - at))
		}
	}
	return s
}

// TestWriteAndRead: 6.1: drawn lists are written as the document says, and read back.
func TestWriteAndRead(t *testing.T) {
	d := die(1)
	for i := range 20_000 {
		l := d.wide()
		if i%2 == 0 {
			l = d.places()
		}
		s, err := Write(l)
		if want := plainWrite(l); s != want || err != nil {
			t.Fatalf("Write(%v) = %q, %v, want %q", l, s, err, want)
		}
		if m, err := Read(s); err != nil || !slices.Equal(m, l) {
			t.Fatalf("Read(%q) = %v, %v, want %v", s, m, err, l)
		}
	}
}

// few are all texts of these bytes, of at most so many.
func few(letters string, most int) []string {
	all := []string{""}
	for from := 0; most > 0; most-- {
		to := len(all)
		for _, s := range all[from:to] {
			for i := range len(letters) {
				all = append(all, s+letters[i:i+1])
			}
		}
		from = to
	}
	return all
}

// plainRight is Right by its promise alone.
func plainRight(l []api.Place) bool {
	for i, p := range l {
		if p.Row < 1 || p.Row > 1<<30 || p.At < 0 || p.At >= 1<<30 {
			return false
		}
		if i > 0 && (p.Row < l[i-1].Row || p.Row == l[i-1].Row && p.At <= l[i-1].At) {
			return false
		}
	}
	return true
}

// numbersOf are the numbers that bytes are, however long each is written.
func numbersOf(s string) []uint64 {
	var l []uint64
	n, shift := uint64(0), 0
	for i := range len(s) {
		n += uint64(s[i]%128) << shift
		shift += 7
		if s[i] < 128 {
			l = append(l, n)
			n, shift = 0, 0
		}
	}
	return l
}

// plainRead is Read by its promise alone: any places that the bytes might be, if just these bytes are told of them.
func plainRead(s string) ([]api.Place, bool) {
	var l []api.Place
	var p api.Place
	numbers := numbersOf(s)
	for i := 0; i < len(numbers); i++ {
		p.At += int(numbers[i] / 2)
		if numbers[i]%2 == 1 && i+1 < len(numbers) {
			p = api.Place{Row: p.Row + int(numbers[i]/2), At: int(numbers[i+1])}
			i++
		}
		l = append(l, p)
	}
	if !plainRight(l) || plainWrite(l) != s {
		return nil, false
	}
	return l, true
}

// reads fails, unless bytes are read as the document says, and says whether they are places.
func reads(t *testing.T, s string) bool {
	t.Helper()
	want, there := plainRead(s)
	got, err := Read(s)
	if there && (err != nil || !slices.Equal(got, want)) {
		t.Fatalf("Read(%q) = %v, %v, want %v", s, got, err, want)
	}
	if !there && !refused(s) {
		t.Fatalf("Read(%q) = %v, %v, but Write tells it of no list", s, got, err)
	}
	return there
}

// enough fails, if a test saw too few bytes of either kind to tell anything.
func enough(t *testing.T, read, refused int) {
	t.Helper()
	if read < 10_000 || refused < 10_000 {
		t.Errorf("%d were read, %d refused: this test tells too little", read, refused)
	}
}

// TestReadShortBytes: 6.1: of all short texts of a few bytes those that Write tells are read as their places, all others are refused.
func TestReadShortBytes(t *testing.T) {
	all, read := few("\x00\x01\x02\x03\x04\x80\x81\x83", 6), 0
	for _, s := range all {
		if reads(t, s) {
			read++
		}
	}
	enough(t, read, len(all)-read)
}

// TestReadGreatNumbers: 6.1: numbers close to the bounds, as rows, as places and as steps, written as they are to be, and longer.
func TestReadGreatNumbers(t *testing.T) {
	var texts []string
	for _, n := range [...]int{0, 1, 63, 64, 127, 128, 1 << 14, 1<<28 - 1, 1 << 28, lastAt, lastRow, 1 << 31, 1 << 32, 1 << 35, 1 << 36, 1 << 62} {
		for by := -3; by <= 3; by++ {
			if n+by >= 0 {
				s := number(n + by)
				b := []byte(s)
				b[len(b)-1] += 128
				texts = append(texts, s, string(b)+"\x00", string(b)+"\x80\x00")
			}
		}
	}
	read := 0
	for _, s := range texts {
		for _, u := range texts {
			for _, x := range [...]string{s + u, "\x03" + s + u, "\x03" + s + "\x03" + u, "\x03\x00" + s + u} {
				if reads(t, x) {
					read++
				}
			}
		}
	}
	enough(t, read, 4*len(texts)*len(texts)-read)
}

// TestReadAnyBytes: 6.1, P1: spoilt bytes are the places of which Write tells just them, or refused.
func TestReadAnyBytes(t *testing.T) {
	d := die(2)
	var read, not int
	for i := range 100_000 {
		l := d.wide()
		if i%2 == 0 {
			l = d.places()
		}
		b := []byte(plainWrite(l))
		for range d.below(3) {
			if len(b) > 0 {
				b[d.below(len(b))] = byte([]int{d.below(256), d.below(5), 128 + d.below(3)}[d.below(3)])
			}
		}
		b = b[:len(b)-d.below(2)*d.below(len(b)+1)]
		if reads(t, string(b)) {
			read++
		} else {
			not++
		}
	}
	enough(t, read, not)
}

// counted is how often each place stands in some lists.
type counted map[api.Place]int

func count(lists ...[]api.Place) counted {
	c := counted{}
	for _, l := range lists {
		for _, p := range l {
			c[p]++
		}
	}
	return c
}

// rising are the places that are counted, each once.
func (c counted) rising() []api.Place {
	var l []api.Place
	for p := range c {
		l = append(l, p)
	}
	slices.SortFunc(l, func(a, b api.Place) int {
		if a.Row != b.Row {
			return a.Row - b.Row
		}
		return a.At - b.At
	})
	return l
}

// rowsOf are the rows that are counted, rising, each once.
func rowsOf(c map[int]int) []int {
	var l []int
	for row := range c {
		l = append(l, row)
	}
	slices.Sort(l)
	return l
}

func plainWithout(l []api.Place, row int) []api.Place {
	c := count(l)
	for p := range c {
		if p.Row == row {
			delete(c, p)
		}
	}
	return c.rising()
}

func plainRows(l []api.Place) []int {
	c := map[int]int{}
	for _, p := range l {
		c[p.Row]++
	}
	return rowsOf(c)
}

func plainFollow(a, b []api.Place) []api.Place {
	c := counted{}
	for _, p := range a {
		for _, q := range b {
			if p.Row == q.Row && q.At == p.At+1 {
				c[q]++
			}
		}
	}
	return c.rising()
}

func plainNear(a, b []api.Place, far int) []int {
	c := map[int]int{}
	for _, p := range a {
		for _, q := range b {
			if p.Row == q.Row && p.At-q.At <= far && q.At-p.At <= far {
				c[p.Row]++
			}
		}
	}
	return rowsOf(c)
}

// alike fails, unless both lists have the same things.
func alike[T comparable](t *testing.T, what string, a, b []api.Place, got, want []T) {
	t.Helper()
	if !slices.Equal(got, want) {
		t.Errorf("%s of %v, %v = %v, want %v", what, a, b, got, want)
	}
}

// against holds all that comes of two lists against a plain count of their places.
func against(t *testing.T, a, b []api.Place) {
	t.Helper()
	alike(t, "Merge", a, b, Merge(a, b), count(a, b).rising())
	alike(t, "Follow", a, b, Follow(a, b), plainFollow(a, b))
	for _, far := range [...]int{0, 1, 2, 3, 7, lastAt - 1, lastAt, math.MaxInt, -1, -2, math.MinInt} {
		alike(t, "Near", a, b, Near(a, b, far), plainNear(a, b, far))
	}
	alike(t, "Rows", a, nil, Rows(a), plainRows(a))
	for _, row := range [...]int{1, 2, 3, 4, 5, lastRow - 1, lastRow, 0, -1, math.MinInt, math.MaxInt} {
		alike(t, "Without", a, nil, Without(a, row), plainWithout(a, row))
	}
}

// TestTogetherDrawn: 6.2: drawn lists, close together and far apart, and each with itself.
func TestTogetherDrawn(t *testing.T) {
	d := die(3)
	for range 5_000 {
		a, b := d.places(), d.places()
		against(t, a, b)
		against(t, a, a)
		v, w := d.wide(), d.wide()
		against(t, v, w)
		against(t, v, Merge(v, w))
		against(t, a, w)
		if t.Failed() {
			return
		}
	}
}

// TestTogetherAllShort: 6.2: all lists of up to two rows of three places, each with each.
func TestTogetherAllShort(t *testing.T) {
	var lists [][]api.Place
	for set := range 1 << 6 {
		var l []api.Place
		for i := range 6 {
			if set>>i&1 == 1 {
				l = append(l, api.Place{Row: 1 + i/3, At: i % 3})
			}
		}
		lists = append(lists, l)
	}
	for _, a := range lists {
		for _, b := range lists {
			against(t, a, b)
		}
		if t.Failed() {
			return
		}
	}
}
