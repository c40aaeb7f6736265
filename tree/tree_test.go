package tree

import (
	"fmt"
	"math"
	"math/bits"
	"slices"
	"strings"
	"testing"
	"unsafe"

	"concordance/api"
	"concordance/disk"
	"concordance/pager"
)

// opened is a pager of a disk that has power.
func opened(t *testing.T, d *disk.Disk) *pager.Pager {
	t.Helper()
	p, err := pager.Open(d)
	if err != nil || p == nil {
		t.Fatalf("Open: %v, %v", p, err)
	}
	return p
}

// at is the tree at a root.
func at(t *testing.T, p *pager.Pager, root int) *Tree {
	t.Helper()
	r, err := At(p, root)
	if err != nil || r == nil {
		t.Fatalf("At(%d): %v, %v", root, r, err)
	}
	return r
}

// told fails, unless an error is this one, as it is.
func told(t *testing.T, what string, err, want error) {
	t.Helper()
	if err != want {
		t.Errorf("%s: %v, want %v", what, err, want)
	}
}

// letters is so many times one letter.
func letters(letter string, n int) string { return strings.Repeat(letter, n) }

// numbered is a text of so many bytes that has the order of its number.
func numbered(n, length int) string { return fmt.Sprintf("%0*d", length, n) }

// put lets a pair stand in a tree.
func put(t *testing.T, r *Tree, key, item string) {
	t.Helper()
	told(t, fmt.Sprintf("Put(%q, %q)", key, item), r.Put(key, item), nil)
}

// grown is a tree at a root into which so many pairs were put, of 60 bytes each with the two more.
func grown(t *testing.T, p *pager.Pager, root, many int) *Tree {
	t.Helper()
	r := at(t, p, root)
	for i := range many {
		put(t, r, numbered(i*7%many, 9), letters("i", 49))
	}
	return r
}

// sized is what a tree's pairs count.
func sized(l []Pair) (sum int) {
	for _, p := range l {
		sum += len(p.Key) + len(p.Item) + 2
	}
	return sum
}

// has fails, unless a tree has these pairs, in order, and no others.
func has(t *testing.T, r *Tree, want ...Pair) {
	t.Helper()
	l, err := r.Walk("", -1)
	if err != nil || !slices.Equal(l, want) {
		t.Fatalf("%d pairs %.300q, %v, want %d pairs %.300q", len(l), l, err, len(want), want)
	}
	if sum := r.Sum(); sum != sized(want) {
		t.Fatalf("Sum() = %d, want %d", sum, sized(want))
	}
	for _, p := range want {
		if s, err := r.Get(p.Key); s != p.Item || err != nil {
			t.Fatalf("Get(%q) = %q, %v, want %q", p.Key, s, err, p.Item)
		}
	}
}

// all are a tree's pairs.
func all(t *testing.T, r *Tree) []Pair {
	t.Helper()
	l, err := r.Walk("", -1)
	told(t, "Walk", err, nil)
	return l
}

// shaped fails, unless these trees' shapes are right, and no page is in use but theirs, and so many others.
func shaped(t *testing.T, p *pager.Pager, others int, trees ...*Tree) {
	t.Helper()
	sum := 0
	for _, r := range trees {
		pages, deep, err := r.Shape()
		if err != nil {
			t.Fatalf("Shape(): %v", err)
		}
		if empty := r.Sum() == 0; empty && (pages != 0 || deep != 0) || !empty && (pages < 1 || deep < 1) {
			t.Fatalf("Shape() = %d, %d of a Sum of %d", pages, deep, r.Sum())
		}
		if deep > pages || deep > 2+bits.Len(uint(pages)) {
			t.Fatalf("Shape() = %d, %d: too deep", pages, deep)
		}
		if r.Sum() > pages*api.PageSize {
			t.Fatalf("Shape() = %d, %d: no room for %d bytes", pages, deep, r.Sum())
		}
		sum += pages
	}
	if used := p.Used() - 1 - others; used != sum {
		t.Fatalf("%d pages are in use, the trees have %d", used, sum)
	}
}

// bare fails, unless a tree is empty.
func bare(t *testing.T, p *pager.Pager, r *Tree) {
	t.Helper()
	has(t, r)
	if pages, deep, err := r.Shape(); pages != 0 || deep != 0 || err != nil {
		t.Errorf("Shape() = %d, %d, %v", pages, deep, err)
	}
	if page, note, err := p.Root(r.root); page != 0 || note != 0 || err != nil {
		t.Errorf("Root = %d, %d, %v", page, note, err)
	}
	if s, err := r.Get("a"); s != "" || err != api.ErrMissing {
		t.Errorf("Get = %q, %v", s, err)
	}
	told(t, "Drop", r.Drop("a"), api.ErrMissing)
	if l, err := r.Prefix(""); len(l) != 0 || err != nil {
		t.Errorf("Prefix = %q, %v", l, err)
	}
}

// fallen is a pager that is Down, with a tree of so many pairs at root 1.
func fallen(t *testing.T, many int) *pager.Pager {
	t.Helper()
	d := &disk.Disk{}
	p := opened(t, d)
	grown(t, p, 1, many)
	d.Cut(0, 0)
	told(t, "Commit", p.Commit(), api.ErrDevice)
	return p
}

// TestAtWrong: 4.1, P2, P3: ErrMissing ahead of ErrRange, and no tree; nothing is changed.
func TestAtWrong(t *testing.T) {
	p := opened(t, &disk.Disk{})
	for _, root := range []int{-1, api.Roots, api.Roots + 1, -api.Roots, 1 << 32, math.MinInt, math.MaxInt} {
		if r, err := At(p, root); r != nil || err != api.ErrRange {
			t.Errorf("At(%d) = %v, %v", root, r, err)
		}
		if r, err := At(nil, root); r != nil || err != api.ErrMissing {
			t.Errorf("At(nil, %d) = %v, %v", root, r, err)
		}
	}
	for root := range api.Roots {
		if r, err := At(nil, root); r != nil || err != api.ErrMissing {
			t.Errorf("At(nil, %d) = %v, %v", root, r, err)
		}
	}
	shaped(t, p, 0)
}

// TestEmpty: 4.1, 4.2, 4.3: at root 0, 0 a tree is empty, and At changes nothing.
func TestEmpty(t *testing.T) {
	p := opened(t, &disk.Disk{})
	for root := range api.Roots {
		r := at(t, p, root)
		bare(t, p, r)
		told(t, "Clear", r.Clear(), nil)
		bare(t, p, r)
		shaped(t, p, 0, r)
	}
}

// TestAtAnew: 4.1: what was put stands at the root: for a tree that is made anew, or beside the first one, and for no other root's.
func TestAtAnew(t *testing.T) {
	p := opened(t, &disk.Disk{})
	for _, many := range []int{1, 10, 100, 400} {
		for root := range api.Roots {
			a, b := at(t, p, root), at(t, p, root)
			put(t, a, numbered(root, 20), "a")
			for i := range many {
				put(t, []*Tree{a, b}[i%2], numbered(i, 9), letters("i", 49))
			}
			told(t, "Drop", b.Drop(numbered(root, 20)), nil)
			want := all(t, a)
			if len(want) != many {
				t.Errorf("%d pairs, want %d", len(want), many)
			}
			has(t, b, want...)
			has(t, at(t, p, root), want...)
			shaped(t, p, 0, b)
			told(t, "Clear", b.Clear(), nil)
			bare(t, p, a)
		}
	}
}

// steps are changes of a tree, from a few pairs to many and to none.
func steps(t *testing.T, r *Tree) []func() {
	putMany := func(from, to int) func() {
		return func() {
			for i := from; i < to; i++ {
				put(t, r, numbered(i*37%1000, 9), letters("i", i%90))
			}
		}
	}
	dropMany := func(from, to int) func() {
		return func() {
			for i := from; i < to; i++ {
				told(t, "Drop", r.Drop(numbered(i*37%1000, 9)), nil)
			}
		}
	}
	return []func(){
		putMany(0, 1), putMany(1, 12), putMany(12, 60), putMany(60, 300), dropMany(0, 200),
		dropMany(200, 290), dropMany(290, 300), putMany(0, 300), func() { told(t, "Clear", r.Clear(), nil) },
		putMany(0, 20),
	}
}

// TestBack: 4.1: what the pager takes back is taken back, by a Mark, at every stage, to and fro.
func TestBack(t *testing.T) {
	p := opened(t, &disk.Disk{})
	r := at(t, p, 3)
	marks, lists := []pager.Mark{p.Mark()}, [][]Pair{nil}
	for _, step := range steps(t, r) {
		step()
		marks, lists = append(marks, p.Mark()), append(lists, all(t, r))
	}
	for range 2 {
		for i, m := range marks {
			told(t, "Back", p.Back(m), nil)
			has(t, r, lists[i]...)
			shaped(t, p, 0, r)
			has(t, at(t, p, 3), lists[i]...)
			put(t, r, "x", "y")
			told(t, "Clear", r.Clear(), nil)
		}
		slices.Reverse(marks)
		slices.Reverse(lists)
	}
}

// TestRollback: 4.1: a Rollback brings the tree as it was committed last; so does another pager of the disk.
func TestRollback(t *testing.T) {
	d := &disk.Disk{}
	p := opened(t, d)
	r := at(t, p, 5)
	var had []Pair
	for _, step := range steps(t, r) {
		step()
		now := all(t, r)
		told(t, "Rollback", p.Rollback(), nil)
		has(t, r, had...)
		shaped(t, p, 0, r)
		q := opened(t, d)
		has(t, at(t, q, 5), had...)
		told(t, "Clear", r.Clear(), nil)
		for _, one := range now {
			put(t, r, one.Key, one.Item)
		}
		told(t, "Commit", p.Commit(), nil)
		had = now
		has(t, r, had...)
		q = opened(t, d)
		has(t, at(t, q, 5), had...)
		shaped(t, q, 0, at(t, q, 5))
		for root := range api.Roots {
			if root != 5 {
				bare(t, q, at(t, q, root))
			}
		}
	}
}

// TestTornCommit: 4.1: wherever the power goes off in a Commit, the tree of a pager that is opened anew is as it was, or as it should be.
func TestTornCommit(t *testing.T) {
	d := &disk.Disk{}
	p := opened(t, d)
	r := grown(t, p, 2, 60)
	told(t, "Commit", p.Commit(), nil)
	had := all(t, r)
	seen := [2]int{}
	for writes := 0; ; writes++ {
		c := *d
		p := opened(t, &c)
		r := at(t, p, 2)
		for i := range 40 {
			told(t, "Drop", r.Drop(numbered(i, 9)), nil)
			put(t, r, numbered(i, 5), letters("j", 90))
		}
		now := all(t, r)
		c.Cut(writes, writes*100%1024)
		err := p.Commit()
		c.Cut(-1, 0)
		q := opened(t, &c)
		got := all(t, at(t, q, 2))
		shaped(t, q, 0, at(t, q, 2))
		switch {
		case slices.Equal(got, now):
			seen[1]++
		case err != nil && slices.Equal(got, had):
			seen[0]++
		default:
			t.Fatalf("writes %d, %v: neither all nor nothing", writes, err)
		}
		if err == nil {
			break
		}
	}
	if seen[0] == 0 || seen[1] == 0 {
		t.Errorf("it was never torn both ways: %v", seen)
	}
}

// TestDown: 4.1, 4.2, P2, P3: ErrState of all but At and Sum, behind Put's ErrArg alone, and nothing beside it.
func TestDown(t *testing.T) {
	for _, many := range []int{0, 1, 60, 499} {
		p := fallen(t, many)
		r := at(t, p, 1)
		if sum := r.Sum(); sum != 60*many {
			t.Errorf("Sum() = %d, want %d", sum, 60*many)
		}
		for _, key := range []string{"", "a", numbered(0, 9), letters("k", 61)} {
			if s, err := r.Get(key); s != "" || err != api.ErrState {
				t.Errorf("Get(%q) = %q, %v", key, s, err)
			}
			told(t, "Drop", r.Drop(key), api.ErrState)
			for _, most := range []int{-1, 0, 1, 5} {
				if l, err := r.Walk(key, most); len(l) != 0 || err != api.ErrState {
					t.Errorf("Walk(%q, %d) = %q, %v", key, most, l, err)
				}
			}
			if l, err := r.Prefix(key); len(l) != 0 || err != api.ErrState {
				t.Errorf("Prefix(%q) = %q, %v", key, l, err)
			}
		}
		if pages, deep, err := r.Shape(); pages != 0 || deep != 0 || err != api.ErrState {
			t.Errorf("Shape() = %d, %d, %v", pages, deep, err)
		}
		told(t, "Clear", r.Clear(), api.ErrState)
		told(t, "Put", r.Put("a", "b"), api.ErrState)
		told(t, "Put", r.Put(numbered(0, 9), ""), api.ErrState)
		// Beyond MaxSum, if there are many.
		told(t, "Put", r.Put(letters("k", 60), letters("i", 100)), api.ErrState)
		told(t, "Put", r.Put("", "b"), api.ErrArg)
		told(t, "Put", r.Put(letters("k", 61), ""), api.ErrArg)
		told(t, "Put", r.Put("a", letters("i", 101)), api.ErrArg)
		if r, err := At(p, api.Roots); r != nil || err != api.ErrRange {
			t.Errorf("At = %v, %v", r, err)
		}
		if sum := r.Sum(); sum != 60*many {
			t.Errorf("Sum() = %d, want %d", sum, 60*many)
		}
	}
}

// TestPutWrong: 4.2, P2: ErrArg, unless the key has 1 to MaxKey bytes, and the item at most MaxItem; nothing is changed.
func TestPutWrong(t *testing.T) {
	for _, many := range []int{0, 1, 50} {
		p := opened(t, &disk.Disk{})
		r := grown(t, p, 0, many)
		want := all(t, r)
		for _, c := range [][2]string{
			{"", ""}, {"", "i"}, {letters("k", 61), ""}, {letters("k", 61), "i"}, {letters("k", 255), ""},
			{letters("k", 256), ""}, {letters("k", 257), "i"}, {letters("k", 316), ""}, {letters("k", 1<<16+1), ""},
			{"k", letters("i", 101)}, {"k", letters("i", 256)}, {"k", letters("i", 356)}, {"k", letters("i", 1<<16)},
			{letters("k", 60), letters("i", 101)}, {numbered(0, 9), letters("i", 101)},
			// ErrArg is told ahead of ErrFull.
			{"k", letters("i", 40000)},
		} {
			told(t, fmt.Sprint("Put ", len(c[0]), " ", len(c[1])), r.Put(c[0], c[1]), api.ErrArg)
		}
		has(t, r, want...)
		shaped(t, p, 0, r)
	}
}

// TestPut: 4.2: the longest and the shortest ones, bytes of all kinds; what stands at a key is what was put last.
func TestPut(t *testing.T) {
	p := opened(t, &disk.Disk{})
	r := at(t, p, 7)
	var want []Pair
	for _, key := range []string{
		"\x00", "\x00\x00", "\x00\x01", "\x01", "\x01\x00", "a", "a\x00", "a\x00\x00", "a\x00b", "aa", "ab", "b",
		letters("k", 59), letters("k", 60), "\x7f", "\x80", "\xc3\xa4", "\xff", "\xff\x00", letters("\xff", 60),
	} {
		want = append(want, Pair{key, ""})
	}
	for n, item := range []string{"", "\x00", letters("\x00", 100), letters("i", 100), "\xff", letters("x", 99), ""} {
		for i := range want {
			j := (i*7 + n) % len(want)
			want[j].Item = item
			put(t, r, want[j].Key, item)
			if s, err := r.Get(want[j].Key); s != item || err != nil {
				t.Errorf("Get(%q) = %q, %v", want[j].Key, s, err)
			}
		}
		has(t, r, want...)
		shaped(t, p, 0, r)
	}
	for len(want) > 0 {
		i := len(want) * 5 / 7
		told(t, "Drop", r.Drop(want[i].Key), nil)
		want = slices.Delete(want, i, i+1)
		has(t, r, want...)
		shaped(t, p, 0, r)
	}
	bare(t, p, r)
}

// TestMissing: 4.2: ErrMissing of keys at which nothing stands, or never can; nothing is changed.
func TestMissing(t *testing.T) {
	p := opened(t, &disk.Disk{})
	for _, many := range []int{1, 17, 18, 100, 400} {
		r := grown(t, p, 0, many)
		want := all(t, r)
		for _, key := range []string{
			"", "0", "\x00", numbered(0, 8), numbered(0, 10), numbered(0, 9) + "\x00", numbered(many/2, 9) + "a",
			numbered(many/2, 9)[:8], numbered(many, 9), "1", "z", "\xff", letters("0", 60), letters("0", 61), letters("z", 300),
		} {
			if s, err := r.Get(key); s != "" || err != api.ErrMissing {
				t.Errorf("Get(%q) = %q, %v", key, s, err)
			}
			told(t, fmt.Sprintf("Drop(%q)", key), r.Drop(key), api.ErrMissing)
		}
		has(t, r, want...)
		for i, one := range want {
			told(t, "Drop", r.Drop(one.Key), nil)
			told(t, "Drop", r.Drop(one.Key), api.ErrMissing)
			if s, err := r.Get(one.Key); s != "" || err != api.ErrMissing {
				t.Errorf("Get(%q) = %q, %v", one.Key, s, err)
			}
			if i%20 == 0 {
				has(t, r, want[i+1:]...)
			}
		}
		bare(t, p, r)
	}
}

// TestFull: 4.2, P2: a Sum of MaxSum may be, one more is ErrFull, of a new key and of one that is there; nothing is changed then.
func TestFull(t *testing.T) {
	for _, length := range []int{4, 60} {
		p := opened(t, &disk.Disk{})
		r := at(t, p, 0)
		n := 0
		for ; r.Sum()+length+2+50 <= api.MaxSum; n++ {
			put(t, r, numbered(n*17%1000, length), letters("i", 50))
		}
		for ; r.Sum() < api.MaxSum; n++ {
			// What is left for a pair is as much as it may be, but never less than the next one takes.
			left := min(api.MaxSum-r.Sum(), 40)
			if api.MaxSum-r.Sum() != left {
				left = 20
			}
			put(t, r, "x"+numbered(n, 8), letters("i", left-11))
		}
		if r.Sum() != api.MaxSum {
			t.Fatalf("Sum() = %d", r.Sum())
		}
		want := all(t, r)
		for range 2 {
			told(t, "Put", r.Put("z", ""), api.ErrFull)
			told(t, "Put", r.Put("\x00", ""), api.ErrFull)
			told(t, "Put", r.Put(letters("z", 60), letters("i", 100)), api.ErrFull)
			told(t, "Put", r.Put(want[3].Key, want[3].Item+"i"), api.ErrFull)
			has(t, r, want...)
			shaped(t, p, 0, r)
			for _, one := range want {
				put(t, r, one.Key, one.Item)
			}
		}
		put(t, r, want[5].Key, letters("j", 47))
		told(t, "Put", r.Put("z", "i"), api.ErrFull)
		told(t, "Put", r.Put("zz", ""), api.ErrFull)
		told(t, "Put", r.Put(want[7].Key, letters("j", 54)), api.ErrFull)
		put(t, r, want[7].Key, letters("j", 53))
		told(t, "Drop", r.Drop(want[9].Key), nil)
		told(t, "Put", r.Put(want[9].Key, letters("j", 51)), api.ErrFull)
		put(t, r, want[9].Key, letters("j", 50))
		told(t, "Put", r.Put("z", ""), api.ErrFull)
		want[5].Item, want[7].Item, want[9].Item = letters("j", 47), letters("j", 53), letters("j", 50)
		has(t, r, want...)
		shaped(t, p, 0, r)
		told(t, "Clear", r.Clear(), nil)
		put(t, r, "z", "")
		has(t, r, Pair{"z", ""})
	}
}

// TestWalk: 4.2: so many pairs from the first one that is not ahead of a key on; of all edges.
func TestWalk(t *testing.T) {
	p := opened(t, &disk.Disk{})
	for _, many := range []int{1, 2, 17, 18, 60, 300} {
		r := at(t, p, 4)
		var want []Pair
		for i := range many {
			want = append(want, Pair{numbered(2*i, 6), letters("i", i%100)})
		}
		for i := range want {
			put(t, r, want[i*7%many].Key, want[i*7%many].Item)
		}
		for n := -1; n <= 2*many+1; n++ {
			// From behind the one at n, from between, or from the key itself.
			for i, from := range []string{numbered(max(n, 0), 6), numbered(max(n, 0), 6) + "\x00", numbered(max(n, 0), 6)[:5]} {
				first, _ := slices.BinarySearchFunc(want, from, func(p Pair, s string) int { return strings.Compare(p.Key, s) })
				for _, most := range []int{-1, 0, 1, 2, 3, 40, many, math.MaxInt, math.MinInt} {
					if i > 0 && most > 3 {
						continue
					}
					last := len(want)
					if most >= 0 && most < last-first {
						last = first + most
					}
					if l, err := r.Walk(from, most); err != nil || !slices.Equal(l, want[first:last]) {
						t.Fatalf("Walk(%q, %d) = %.300q, %v, want %.300q", from, most, l, err, want[first:last])
					}
				}
			}
		}
		for _, from := range []string{"", "\x00", "/", letters("\x00", 100)} {
			if l, err := r.Walk(from, -1); err != nil || !slices.Equal(l, want) {
				t.Errorf("Walk(%q, -1) = %.300q, %v", from, l, err)
			}
		}
		for _, from := range []string{"1", "z", "\xff", letters("\xff", 100)} {
			if l, err := r.Walk(from, -1); err != nil || len(l) != 0 {
				t.Errorf("Walk(%q, -1) = %.300q, %v", from, l, err)
			}
		}
		told(t, "Clear", r.Clear(), nil)
	}
}

// TestPrefix: 4.2: all pairs whose keys begin so, and no others; the edges of bytes.
func TestPrefix(t *testing.T) {
	p := opened(t, &disk.Disk{})
	r := at(t, p, 4)
	var want []Pair
	for _, a := range []string{"", "\x00", "a", "b", "\xfe", "\xff", "\xff\xff"} {
		for _, b := range []string{"", "\x00", "a", "b", "\xff"} {
			for i := range 9 {
				want = append(want, Pair{a + b + letters("c", i) + "\xff", letters("i", i*10)})
			}
		}
	}
	want = append(want, Pair{letters("\xff", 60), "most"})
	slices.SortFunc(want, func(a, b Pair) int { return strings.Compare(a.Key, b.Key) })
	want = slices.CompactFunc(want, func(a, b Pair) bool { return a.Key == b.Key })
	for i := range want {
		put(t, r, want[i*5%len(want)].Key, want[i*5%len(want)].Item)
	}
	for i := range want {
		put(t, r, want[i].Key, want[i].Item)
	}
	asked := []string{"", "\xff\xff\xff", "d", "az", letters("\xff", 59), letters("\xff", 61), letters("a", 100)}
	for _, one := range want {
		asked = append(asked, one.Key, one.Key[:len(one.Key)/2], one.Key[:len(one.Key)-1], one.Key+"\x00")
	}
	for _, s := range asked {
		var begin []Pair
		for _, one := range want {
			if strings.HasPrefix(one.Key, s) {
				begin = append(begin, one)
			}
		}
		if l, err := r.Prefix(s); err != nil || !slices.Equal(l, begin) {
			t.Errorf("Prefix(%q) = %.300q, %v, want %.300q", s, l, err, begin)
		}
	}
	has(t, r, want...)
}

// TestClear: 4.2, 4.3: nothing stands anywhere, no page is in use, and the tree may grow again.
func TestClear(t *testing.T) {
	p := opened(t, &disk.Disk{})
	for _, many := range []int{1, 17, 18, 100, 500, 3} {
		r := grown(t, p, 6, many)
		shaped(t, p, 0, r)
		for range 2 {
			told(t, "Clear", r.Clear(), nil)
			bare(t, p, r)
			shaped(t, p, 0)
		}
	}
}

// TestTwoTrees: 4.1, 4.3: two trees at two roots have nothing in common: each page is one's own, and none is in use beside them.
func TestTwoTrees(t *testing.T) {
	p := opened(t, &disk.Disk{})
	// A page of somebody else's, between theirs.
	a := grown(t, p, 0, 100)
	k, err := p.Alloc()
	told(t, "Alloc", err, nil)
	page := letters("\xab", api.PageSize)
	told(t, "Write", p.Write(k, page), nil)
	b := at(t, p, 1)
	var wantA, wantB []Pair
	wantA = all(t, a)
	for i := range 300 {
		put(t, b, numbered(i*7%300, 5), letters("b", i%60))
		if i%3 == 0 && len(wantA) > 0 {
			j := i % len(wantA)
			told(t, "Drop", a.Drop(wantA[j].Key), nil)
			wantA = slices.Delete(wantA, j, j+1)
		}
		has(t, a, wantA...)
		shaped(t, p, 1, a, b)
	}
	bare(t, p, a)
	wantB = all(t, b)
	for i := range 200 {
		put(t, a, numbered(i, 30), letters("a", 90))
		wantA = append(wantA, Pair{numbered(i, 30), letters("a", 90)})
		has(t, b, wantB...)
		shaped(t, p, 1, a, b)
	}
	told(t, "Clear", b.Clear(), nil)
	bare(t, p, b)
	has(t, a, wantA...)
	shaped(t, p, 1, a, b)
	told(t, "Clear", a.Clear(), nil)
	shaped(t, p, 1, a, b)
	if s, err := p.Read(k); s != page || err != nil {
		t.Errorf("somebody else's page: %v", err)
	}
}

// TestAllFull: 4.2, 4.3: all trees of a pager may have MaxSum at once, of whatever pairs; few pages are in use for them.
func TestAllFull(t *testing.T) {
	p := opened(t, &disk.Disk{})
	var trees []*Tree
	for root := range api.Roots {
		r := at(t, p, root)
		length, item := 4+root*8, root*14
		for i := 0; r.Sum()+length+item+2 <= api.MaxSum; i++ {
			put(t, r, numbered(i*7919%10000, length), letters("i", item))
		}
		told(t, "Put", r.Put(letters("z", 60), letters("i", 100)), api.ErrFull)
		trees = append(trees, r)
		shaped(t, p, 0, trees...)
	}
	for _, r := range trees {
		if pages, _, _ := r.Shape(); pages > 2*api.MaxSum/api.PageSize+2 {
			t.Errorf("%d pages", pages)
		}
		told(t, "Clear", r.Clear(), nil)
	}
	shaped(t, p, 0)
}

// TestNoPageLeft: 4.2, P2: if the pager has no page left, a Put that needs one tells ErrFull, and nothing is changed; what needs none is done.
func TestNoPageLeft(t *testing.T) {
	for _, many := range []int{0, 1, 17, 18, 200} {
		for spare := range 3 {
			p := opened(t, &disk.Disk{})
			r := grown(t, p, 0, many)
			for p.Used() < api.MaxPages-spare {
				_, err := p.Alloc()
				told(t, "Alloc", err, nil)
			}
			pages, _, _ := r.Shape()
			others := p.Used() - 1 - pages
			var err error
			for i := 0; err == nil; i++ {
				want, used := all(t, r), p.Used()
				key := numbered(i*7%100, 8) + "x"
				if err = r.Put(key, letters("i", 70)); err != nil {
					told(t, "Put", err, api.ErrFull)
					has(t, r, want...)
					if p.Used() != used {
						t.Errorf("%d pages are in use, were %d", p.Used(), used)
					}
				}
				shaped(t, p, others, r)
			}
			l := all(t, r)
			for len(l) > 0 {
				told(t, "Drop", r.Drop(l[0].Key), nil)
				l = l[1:]
				has(t, r, l...)
				shaped(t, p, others, r)
			}
		}
	}
}

// TestFewWrites: a Put or a Drop changes the pages around its key alone; what is put again, as it stands there, changes none.
func TestFewWrites(t *testing.T) {
	d := &disk.Disk{}
	p := opened(t, d)
	r := grown(t, p, 0, 400)
	told(t, "Commit", p.Commit(), nil)
	d.Cut(2, 0)
	told(t, "Commit", p.Commit(), nil)
	if d.On() {
		t.Fatal("a Commit of nothing does not take two writes")
	}
	for i := range 400 {
		// A Commit of one page, of none, and of as many as a leaf that is cut in two, or joined, may reach.
		put(t, r, numbered(i, 9), letters("j", 49))
		d.Cut(3, 0)
		told(t, "Commit", p.Commit(), nil)
		put(t, r, numbered(i, 9), letters("j", 49))
		d.Cut(2, 0)
		told(t, "Commit", p.Commit(), nil)
		told(t, "Drop", r.Drop(numbered(i, 9)), nil)
		put(t, r, numbered(i, 10), letters("j", i%100))
		d.Cut(2+10, 0)
		told(t, "Commit", p.Commit(), nil)
	}
}

// TestNothingIsKept: P4: a tree keeps no memory of a text that is handed in.
func TestNothingIsKept(t *testing.T) {
	r := at(t, opened(t, &disk.Disk{}), 0)
	key, item := []byte("key"), []byte("item")
	put(t, r, unsafe.String(&key[0], 3), unsafe.String(&item[0], 4))
	copy(key, "xxx")
	copy(item, "xxxx")
	has(t, r, Pair{"key", "item"})
}

// scrawl writes over a text's memory.
func scrawl(s string) {
	for i := range len(s) {
		unsafe.Slice(unsafe.StringData(s), len(s))[i] = '!'
	}
}

// TestAnswersAreFresh: P4: what comes out is the caller's own memory, and no two texts of it share any.
func TestAnswersAreFresh(t *testing.T) {
	r := grown(t, opened(t, &disk.Disk{}), 0, 40)
	var want []Pair
	for i := range 40 {
		want = append(want, Pair{numbered(i, 9), letters("i", 49)})
	}
	for i, one := range want {
		s, _ := r.Get(one.Key)
		scrawl(s)
		l, _ := r.Walk("", -1)
		scrawl(l[i].Key)
		m, _ := r.Prefix("")
		scrawl(m[i].Item)
		if l[i].Item != one.Item || m[i].Key != one.Key {
			t.Errorf("pair %d shares memory", i)
		}
		for j, other := range want {
			if j != i && (l[j] != other || m[j] != other) {
				t.Errorf("pairs %d and %d share memory", i, j)
			}
		}
		has(t, r, want...)
	}
}

// TestStrangePages: P1: no call panics, and each ends, whatever a root and the pages have.
func TestStrangePages(t *testing.T) {
	dice := die(1)
	for n := range 3000 {
		p := opened(t, &disk.Disk{})
		for range dice.below(6) {
			k, err := p.Alloc()
			told(t, "Alloc", err, nil)
			b := make([]byte, api.PageSize)
			for i := range b {
				b[i] = byte(dice.below([]int{2, 8, 60, 256}[n%4]))
			}
			told(t, "Write", p.Write(k, string(b)), nil)
		}
		told(t, "SetRoot", p.SetRoot(0, dice.below(8), dice.below(2000)*(n%20)), nil)
		r := at(t, p, 0)
		for range 10 {
			key := letters(string([]byte{byte(dice.below(256))}), 1+dice.below(60))
			r.Get(key)
			r.Shape()
			r.Sum()
			r.Walk(key, dice.below(9)-1)
			r.Prefix(key[:1])
			if dice.below(2) == 0 {
				r.Put(key, letters("i", dice.below(100)))
			} else {
				r.Drop(key)
			}
		}
		r.Clear()
	}
}
