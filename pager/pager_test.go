package pager

import (
	"fmt"
	"math"
	"strings"
	"testing"
	"unsafe"

	"concordance/api"
	"concordance/disk"
)

const (
	size = api.PageSize
	most = api.MaxPages - 1 // the last page
)

// leaf is a page of one letter.
func leaf(letter string) string { return strings.Repeat(letter, size) }

// noughts is a page as Alloc gives it.
func noughts() string { return leaf("\x00") }

// mixed is a page whose bytes tell where they stand, another one for each n.
func mixed(n int) string {
	b := make([]byte, size)
	for i := range b {
		b[i] = byte(n*37 + n>>8 + i*i + i>>8)
	}
	return string(b)
}

// brief is a text's length, and its first few runs of one letter.
func brief(s string) string {
	out := fmt.Sprint(len(s), " bytes:")
	for runs := 0; s != "" && runs < 6; runs++ {
		n := 1
		for n < len(s) && s[n] == s[0] {
			n++
		}
		out += fmt.Sprintf(" %d of %x", n, s[0])
		s = s[n:]
	}
	return out
}

// opened is a pager of a disk that has power.
func opened(t *testing.T, d *disk.Disk) *Pager {
	t.Helper()
	p, err := Open(d)
	if err != nil || p == nil {
		t.Fatalf("Open: %v, %v", p, err)
	}
	if p.Down() {
		t.Error("it is down when it is opened")
	}
	return p
}

// told fails, unless an error is this one, as it is.
func told(t *testing.T, what string, err, want error) {
	t.Helper()
	if err != want {
		t.Errorf("%s: %v, want %v", what, err, want)
	}
}

// has fails, unless a page has these bytes.
func has(t *testing.T, p *Pager, k int, want string) {
	t.Helper()
	got, err := p.Read(k)
	if err != nil || got != want {
		t.Errorf("Read(%d) = %s, %v, want %s", k, brief(got), err, brief(want))
	}
}

// lacks fails, unless a page is not in use.
func lacks(t *testing.T, p *Pager, k int) {
	t.Helper()
	if s, err := p.Read(k); s != "" || err != api.ErrRange {
		t.Errorf("Read(%d) = %s, %v, want ErrRange", k, brief(s), err)
	}
}

// took fails, unless Alloc takes this page.
func took(t *testing.T, p *Pager, want int) {
	t.Helper()
	if k, err := p.Alloc(); k != want || err != nil {
		t.Errorf("Alloc() = %d, %v, want %d", k, err, want)
	}
}

// rooted fails, unless a root is this.
func rooted(t *testing.T, p *Pager, i, page, note int) {
	t.Helper()
	if k, n, err := p.Root(i); k != page || n != note || err != nil {
		t.Errorf("Root(%d) = %d, %d, %v, want %d, %d", i, k, n, err, page, note)
	}
}

// used fails, unless Used tells so.
func used(t *testing.T, p *Pager, want int) {
	t.Helper()
	if n := p.Used(); n != want {
		t.Errorf("Used() = %d, want %d", n, want)
	}
}

// outside has numbers of no page, on any pager.
func outside() []int {
	return []int{-1, 0, -2, -most, math.MinInt, most + 1, most + 2, 2 * api.MaxPages, api.Places, math.MaxInt, 1<<32 + 1, -1 << 32}
}

// wrongPages has texts that are no page.
func wrongPages() []string {
	return []string{"", "x", leaf("x")[1:], leaf("x") + "x", leaf("x") + leaf("x"), strings.Repeat("x", 1<<16)}
}

// wholly is all that a pager tells, as a text.
func wholly(t *testing.T, p *Pager) string {
	t.Helper()
	var out strings.Builder
	n := 1
	for k := 1; k <= most; k++ {
		s, err := p.Read(k)
		switch {
		case err == nil && len(s) == size:
			n++
			fmt.Fprintf(&out, "%d:%s\n", k, s)
		case err != api.ErrRange || s != "":
			t.Errorf("Read(%d) = %s, %v", k, brief(s), err)
		}
	}
	used(t, p, n)
	for i := range api.Roots {
		page, note, err := p.Root(i)
		fmt.Fprintln(&out, "root", i, page, note, err)
	}
	return out.String()
}

// same fails, unless a pager tells all that.
func same(t *testing.T, what string, p *Pager, want string) {
	t.Helper()
	if wholly(t, p) != want {
		t.Errorf("%s: not all is as it was", what)
	}
}

// some is a disk to which something was committed: pages 1, 2, 4 and 5, and roots.
func some(t *testing.T) *disk.Disk {
	t.Helper()
	d := &disk.Disk{}
	p := opened(t, d)
	for k := 1; k <= 5; k++ {
		took(t, p, k)
		told(t, "Write", p.Write(k, mixed(k)), nil)
	}
	told(t, "Free", p.Free(3), nil)
	told(t, "SetRoot", p.SetRoot(0, 2, 77), nil)
	told(t, "SetRoot", p.SetRoot(7, 1999, 65535), nil)
	told(t, "Commit", p.Commit(), nil)
	return d
}

// change does a bit of everything to what some has.
func change(t *testing.T, p *Pager) {
	t.Helper()
	told(t, "Write", p.Write(1, mixed(100)), nil)
	told(t, "Free", p.Free(2), nil)
	took(t, p, 2)
	took(t, p, 3)
	told(t, "Write", p.Write(3, mixed(300)), nil)
	told(t, "Free", p.Free(5), nil)
	told(t, "SetRoot", p.SetRoot(0, 3, 1), nil)
	told(t, "SetRoot", p.SetRoot(3, 4, 256), nil)
	told(t, "SetRoot", p.SetRoot(7, 0, 0), nil)
}

// fallen is a pager that is Down, of some, with pages 1, 2, 4 and 5 in use.
func fallen(t *testing.T) *Pager {
	t.Helper()
	d := some(t)
	p := opened(t, d)
	told(t, "Write", p.Write(1, leaf("x")), nil)
	d.Cut(0, 0)
	told(t, "Commit", p.Commit(), api.ErrDevice)
	return p
}

// TestEmpty: 3.1: of an empty disk no pages are in use, and all roots are 0, 0.
func TestEmpty(t *testing.T) {
	p := opened(t, &disk.Disk{})
	used(t, p, 1)
	for k := -2; k <= most+2; k++ {
		lacks(t, p, k)
	}
	for i := range api.Roots {
		rooted(t, p, i, 0, 0)
	}
}

// TestOpenNothing: 3.1, P2: ErrMissing, and no pager.
func TestOpenNothing(t *testing.T) {
	if p, err := Open(nil); p != nil || err != api.ErrMissing {
		t.Errorf("Open(nil) = %v, %v", p, err)
	}
}

// TestOpen: 3.1: all is as it was committed, and nothing as it was not.
func TestOpen(t *testing.T) {
	d := some(t)
	for range 3 {
		p := opened(t, d)
		used(t, p, 5)
		for _, k := range []int{1, 2, 4, 5} {
			has(t, p, k, mixed(k))
		}
		lacks(t, p, 3)
		lacks(t, p, 6)
		rooted(t, p, 0, 2, 77)
		rooted(t, p, 1, 0, 0)
		rooted(t, p, 7, 1999, 65535)
		change(t, p)
	}
	p := opened(t, d)
	change(t, p)
	want := wholly(t, p)
	told(t, "Commit", p.Commit(), nil)
	same(t, "behind Commit", p, want)
	same(t, "opened anew", opened(t, d), want)
	has(t, p, 2, noughts())
	has(t, p, 3, mixed(300))
	lacks(t, p, 5)
	rooted(t, p, 7, 0, 0)
}

// TestOpenWithoutPower: 3.1: Open writes nothing: without power it has what was committed, and leaves the first torn write to come.
func TestOpenWithoutPower(t *testing.T) {
	d := some(t)
	want := wholly(t, opened(t, d))
	for writes := range 3 {
		d.Cut(writes, 1)
		same(t, "without power", opened(t, d), want)
		for range writes {
			if !d.On() {
				t.Errorf("Open took power")
			}
			told(t, "disk.Write", d.Write(3, mixed(9)), nil)
		}
		told(t, "disk.Write", d.Write(3, leaf("x")), api.ErrDevice)
		if s, _ := d.Read(3); s[0] != 'x' {
			t.Errorf("Open took the torn write")
		}
	}
}

// TestDown: 3.1: it is Down when Commit told ErrDevice, and stays so; one that is opened anew is not.
func TestDown(t *testing.T) {
	d := some(t)
	p := opened(t, d)
	change(t, p)
	d.Cut(0, 0)
	if p.Down() {
		t.Error("it is down ahead of Commit")
	}
	has(t, p, 1, mixed(100))
	told(t, "Commit", p.Commit(), api.ErrDevice)
	for range 2 {
		if !p.Down() {
			t.Error("it is not down")
		}
		told(t, "Commit", p.Commit(), api.ErrState)
		d.Cut(-1, 0)
	}
	if opened(t, d).Down() {
		t.Error("another one is down")
	}
	if !p.Down() {
		t.Error("it is not down any more")
	}
}

// TestWrongPages: 3.2, P2, P3: ErrRange, unless the page is in use, whatever else is wrong; nothing is changed.
func TestWrongPages(t *testing.T) {
	for _, p := range []*Pager{opened(t, some(t)), fallen(t)} {
		n := p.Used()
		for _, k := range append(outside(), 3, 6, 7, 100, most-1, most) {
			lacks(t, p, k)
			told(t, fmt.Sprint("Free ", k), p.Free(k), api.ErrRange)
			for _, s := range append(wrongPages(), leaf("x")) {
				told(t, fmt.Sprint("Write ", k), p.Write(k, s), api.ErrRange)
			}
			lacks(t, p, k)
		}
		used(t, p, n)
	}
}

// TestWriteWrong: 3.2: ErrArg, unless it has PageSize bytes; the page is as it was.
func TestWriteWrong(t *testing.T) {
	p := opened(t, some(t))
	took(t, p, 3)
	for _, s := range wrongPages() {
		told(t, "Write", p.Write(1, s), api.ErrArg)
		told(t, "Write", p.Write(3, s), api.ErrArg)
	}
	has(t, p, 1, mixed(1))
	has(t, p, 3, noughts())
}

// TestWrite: 3.2: a page is what was written to it last, committed or not, and no other one is.
func TestWrite(t *testing.T) {
	d := &disk.Disk{}
	p := opened(t, d)
	for k := 1; k <= 20; k++ {
		took(t, p, k)
	}
	want := [21]string{}
	for k := range want {
		want[k] = noughts()
	}
	for n := range 200 {
		k := 1 + n*n%20
		told(t, "Write", p.Write(k, mixed(n)), nil)
		want[k] = mixed(n)
		if n%7 == 0 {
			told(t, "Commit", p.Commit(), nil)
		}
		if n%21 == 0 {
			p = opened(t, d)
		}
		for k := 1; k <= 20; k++ {
			has(t, p, k, want[k])
		}
	}
}

// TestAlloc: 3.2: the least page that is not in use, all 0, whatever it had; ErrFull, when all are in use.
func TestAlloc(t *testing.T) {
	d := &disk.Disk{}
	p := opened(t, d)
	for k := 1; k <= most; k++ {
		took(t, p, k)
		has(t, p, k, noughts())
		used(t, p, k+1)
		told(t, "Write", p.Write(k, mixed(k)), nil)
	}
	for _, again := range []bool{false, true} {
		if again {
			told(t, "Commit", p.Commit(), nil)
			p = opened(t, d)
		}
		for range 2 {
			if k, err := p.Alloc(); k != 0 || err != api.ErrFull {
				t.Errorf("Alloc() = %d, %v, want ErrFull", k, err)
			}
		}
		used(t, p, most+1)
		has(t, p, most, mixed(most))
		for _, k := range []int{most, 1000, 1, 2} {
			told(t, "Free", p.Free(k), nil)
			lacks(t, p, k)
		}
		used(t, p, most-3)
		for _, k := range []int{1, 2, 1000, most} {
			took(t, p, k)
			has(t, p, k, noughts())
			told(t, "Write", p.Write(k, mixed(k)), nil)
		}
	}
}

// TestFree: 3.2: a page that is given back is not in use, and what it had does not come again.
func TestFree(t *testing.T) {
	d := some(t)
	p := opened(t, d)
	told(t, "Free", p.Free(4), nil)
	told(t, "Free", p.Free(4), api.ErrRange)
	used(t, p, 4)
	told(t, "Write", p.Write(1, leaf("x")), nil)
	told(t, "Free", p.Free(1), nil)
	lacks(t, p, 1)
	lacks(t, p, 4)
	used(t, p, 3)
	told(t, "Commit", p.Commit(), nil)
	p = opened(t, d)
	lacks(t, p, 1)
	lacks(t, p, 4)
	used(t, p, 3)
	took(t, p, 1)
	took(t, p, 3)
	took(t, p, 4)
	for _, k := range []int{1, 3, 4} {
		has(t, p, k, noughts())
	}
	told(t, "Commit", p.Commit(), nil)
	p = opened(t, d)
	for _, k := range []int{1, 3, 4} {
		has(t, p, k, noughts())
	}
	rooted(t, p, 0, 2, 77)
}

// TestRoots: 3.2: roots are as they were set, each by itself, whether their page is in use or not.
func TestRoots(t *testing.T) {
	d := &disk.Disk{}
	p := opened(t, d)
	pages := [api.Roots]int{0, 1, 255, 256, 257, 1000, 1999, 0}
	notes := [api.Roots]int{1, 0, 65535, 32768, 256, 255, 0x1234, 0}
	for i := range api.Roots {
		told(t, "SetRoot", p.SetRoot(i, pages[i], notes[i]), nil)
	}
	for range 2 {
		for i := range api.Roots {
			rooted(t, p, i, pages[i], notes[i])
		}
		used(t, p, 1)
		told(t, "Commit", p.Commit(), nil)
		p = opened(t, d)
	}
}

// TestRootsWrong: 3.2, P2, P3: ErrRange ahead of ErrState; nothing is changed.
func TestRootsWrong(t *testing.T) {
	for _, p := range []*Pager{opened(t, some(t)), fallen(t)} {
		for _, i := range []int{-1, -8, math.MinInt, 8, 9, 1 << 32, math.MaxInt} {
			if page, note, err := p.Root(i); page != 0 || note != 0 || err != api.ErrRange {
				t.Errorf("Root(%d) = %d, %d, %v", i, page, note, err)
			}
			told(t, "SetRoot", p.SetRoot(i, 1, 1), api.ErrRange)
		}
		for _, i := range []int{0, 3, 7} {
			for _, k := range []int{-1, math.MinInt, most + 1, 1 << 16, 1 << 32, math.MaxInt} {
				told(t, "SetRoot", p.SetRoot(i, k, 0), api.ErrRange)
			}
			for _, n := range []int{-1, math.MinInt, 1 << 16, 1<<16 + 1, 1 << 32, math.MaxInt} {
				told(t, "SetRoot", p.SetRoot(i, 1, n), api.ErrRange)
			}
		}
		rooted(t, p, 0, 2, 77)
		rooted(t, p, 3, 0, 0)
		rooted(t, p, 7, 1999, 65535)
	}
}

// TestDownTells: 3.2, 3.3: ErrState, if it is Down, ahead of all but ErrRange; Root and Used tell what there was.
func TestDownTells(t *testing.T) {
	p := fallen(t)
	zero, mark := Mark{}, p.Mark()
	for _, k := range []int{1, 2, 4, 5} {
		if s, err := p.Read(k); s != "" || err != api.ErrState {
			t.Errorf("Read(%d) = %s, %v", k, brief(s), err)
		}
		told(t, "Write", p.Write(k, leaf("y")), api.ErrState)
		told(t, "Write", p.Write(k, "y"), api.ErrState)
		told(t, "Free", p.Free(k), api.ErrState)
	}
	if k, err := p.Alloc(); k != 0 || err != api.ErrState {
		t.Errorf("Alloc() = %d, %v", k, err)
	}
	told(t, "SetRoot", p.SetRoot(0, 1, 1), api.ErrState)
	told(t, "Back", p.Back(mark), api.ErrState)
	told(t, "Back", p.Back(zero), api.ErrState)
	told(t, "Rollback", p.Rollback(), api.ErrState)
	told(t, "Commit", p.Commit(), api.ErrState)
	used(t, p, 5)
	rooted(t, p, 0, 2, 77)
	rooted(t, p, 7, 1999, 65535)
}

// TestDownAndFull: 3.2: Alloc tells ErrState ahead of ErrFull.
func TestDownAndFull(t *testing.T) {
	d := &disk.Disk{}
	p := opened(t, d)
	for k := 1; k <= most; k++ {
		took(t, p, k)
	}
	d.Cut(0, 0)
	told(t, "Commit", p.Commit(), api.ErrDevice)
	if k, err := p.Alloc(); k != 0 || err != api.ErrState {
		t.Errorf("Alloc() = %d, %v", k, err)
	}
}

// TestBack: 3.3: all is as it was noted, more than once, to and fro among Marks.
func TestBack(t *testing.T) {
	p := opened(t, some(t))
	first, had := p.Mark(), wholly(t, p)
	change(t, p)
	second, then := p.Mark(), wholly(t, p)
	told(t, "Write", p.Write(1, leaf("z")), nil)
	told(t, "Write", p.Write(4, leaf("z")), nil)
	told(t, "Free", p.Free(3), nil)
	told(t, "SetRoot", p.SetRoot(5, 5, 5), nil)
	took(t, p, 3)
	took(t, p, 5)
	for range 2 {
		told(t, "Back", p.Back(second), nil)
		same(t, "the second Mark", p, then)
		told(t, "Free", p.Free(1), nil)
		told(t, "Write", p.Write(4, leaf("y")), nil)
		told(t, "Back", p.Back(first), nil)
		same(t, "the first Mark", p, had)
		change(t, p)
		same(t, "changed again", p, then)
		told(t, "Rollback", p.Rollback(), nil)
		same(t, "Rollback", p, had)
	}
	told(t, "Back", p.Back(second), nil)
	same(t, "behind Rollback", p, then)
}

// TestBackIsCommitted: 3.3: what was taken back is not committed; what was noted is.
func TestBackIsCommitted(t *testing.T) {
	d := some(t)
	p := opened(t, d)
	told(t, "Write", p.Write(1, leaf("z")), nil)
	took(t, p, 3)
	mark, want := p.Mark(), wholly(t, p)
	told(t, "Write", p.Write(3, leaf("y")), nil)
	told(t, "Write", p.Write(2, leaf("y")), nil)
	took(t, p, 6)
	told(t, "Free", p.Free(1), nil)
	told(t, "SetRoot", p.SetRoot(2, 2, 2), nil)
	told(t, "Back", p.Back(mark), nil)
	told(t, "Commit", p.Commit(), nil)
	same(t, "behind Commit", p, want)
	same(t, "opened anew", opened(t, d), want)
}

// TestBackWrong: 3.3: ErrArg, if it is a Mark's zero value, or a Commit told no error since, be it one of nothing; nothing is changed.
func TestBackWrong(t *testing.T) {
	p := opened(t, &disk.Disk{})
	told(t, "Back", p.Back(Mark{}), api.ErrArg)
	p = opened(t, some(t))
	change(t, p)
	want := wholly(t, p)
	told(t, "Back", p.Back(Mark{}), api.ErrArg)
	same(t, "a zero Mark", p, want)
	mark := p.Mark()
	told(t, "Commit", p.Commit(), nil)
	told(t, "Back", p.Back(mark), api.ErrArg)
	same(t, "an old Mark", p, want)
	mark = p.Mark()
	told(t, "Back", p.Back(mark), nil)
	told(t, "Commit", p.Commit(), nil)
	told(t, "Back", p.Back(mark), api.ErrArg)
	told(t, "Rollback", p.Rollback(), nil)
	told(t, "Back", p.Back(mark), api.ErrArg)
	told(t, "Back", p.Back(Mark{}), api.ErrArg)
	same(t, "all of it", p, want)
}

// TestRollback: 3.3: all is as it was committed last.
func TestRollback(t *testing.T) {
	d := some(t)
	p := opened(t, d)
	want := wholly(t, p)
	told(t, "Rollback", p.Rollback(), nil)
	same(t, "nothing", p, want)
	for range 3 {
		change(t, p)
		told(t, "Rollback", p.Rollback(), nil)
		same(t, "Rollback", p, want)
	}
	change(t, p)
	want = wholly(t, p)
	told(t, "Commit", p.Commit(), nil)
	told(t, "Write", p.Write(2, leaf("z")), nil)
	told(t, "Free", p.Free(3), nil)
	told(t, "SetRoot", p.SetRoot(2, 2, 2), nil)
	told(t, "Rollback", p.Rollback(), nil)
	same(t, "behind Commit", p, want)
	told(t, "Commit", p.Commit(), nil)
	same(t, "opened anew", opened(t, d), want)
	p = opened(t, &disk.Disk{})
	want = wholly(t, p)
	took(t, p, 1)
	told(t, "Rollback", p.Rollback(), nil)
	same(t, "of an empty disk", p, want)
	took(t, p, 1)
}

// TestCommitWithoutPower: 3.3: ErrDevice, though nothing is changed.
func TestCommitWithoutPower(t *testing.T) {
	d := some(t)
	want := wholly(t, opened(t, d))
	for _, torn := range []int{0, 1, size} {
		p := opened(t, d)
		d.Cut(0, torn)
		told(t, "Commit", p.Commit(), api.ErrDevice)
		if !p.Down() {
			t.Error("it is not down")
		}
		d.Cut(-1, 0)
		same(t, "opened anew", opened(t, d), want)
	}
}

// writes is how many writes a Commit takes.
func writes(t *testing.T, d *disk.Disk, p *Pager) int {
	t.Helper()
	d.Cut(10000, 0)
	told(t, "Commit", p.Commit(), nil)
	n := 10000
	for d.On() {
		told(t, "disk.Write", d.Write(9, noughts()), nil)
		n--
	}
	d.Cut(-1, 0)
	return n
}

// TestCommitWrites: a Commit writes each changed page that is in use once, the head and the turn, and nothing that was given back, taken back or committed before.
func TestCommitWrites(t *testing.T) {
	d := some(t)
	p := opened(t, d)
	for _, c := range []struct {
		want int
		work func()
	}{
		{2, func() {}},
		{2, func() { p.SetRoot(1, 1, 1) }},
		{4, func() { p.Write(1, leaf("a")); p.Write(1, leaf("b")); p.Write(2, leaf("c")) }},
		{2, func() {}},
		{2, func() { p.Write(1, leaf("d")); p.Free(1); p.Alloc(); p.Free(1) }},
		{3, func() { p.Alloc() }},
		{2, func() { p.Write(1, leaf("e")); p.Rollback() }},
		{3, func() { p.Write(1, leaf("f")); m := p.Mark(); p.Write(2, leaf("g")); p.Back(m) }},
	} {
		c.work()
		if n := writes(t, d, p); n != c.want {
			t.Errorf("%d writes, want %d", n, c.want)
		}
	}
	has(t, p, 1, leaf("f"))
	has(t, p, 2, leaf("c"))
}

// tears has how many bytes the last write leaves: all edges, and some between.
func tears() []int {
	return []int{-1, 0, 1, 2, 3, 7, 8, 31, 32, 100, 250, 251, 499, 500, 501, 512, 531, 532, 533, size - 1, size, size + 1}
}

// tearOpen opens a disk while the power goes off at each of its writes, and then with power: it has want each time, wherever an error is not told.
func tearOpen(t *testing.T, d disk.Disk, want string) {
	t.Helper()
	for writes := 0; ; writes++ {
		for _, torn := range tears() {
			c := d
			c.Cut(writes, torn)
			p, err := Open(&c)
			if err == nil {
				same(t, "opened while the power goes off", p, want)
			} else if p != nil || err != api.ErrDevice {
				t.Fatalf("Open: %v, %v", p, err)
			}
			c.Cut(-1, 0)
			same(t, "opened behind that", opened(t, &c), want)
			if err == nil && torn > size {
				return
			}
		}
	}
}

// tearCommit changes what a disk has, and lets the power go off at each write of the Commit, torn in every way: all is there then, or all that was ahead of it. It ends with the first Commit that no power is missing for.
func tearCommit(t *testing.T, d disk.Disk, work func(p *Pager)) {
	t.Helper()
	had := wholly(t, opened(t, &d))
	seen := [2]bool{}
	for writes := 0; ; writes++ {
		for _, torn := range tears() {
			c := d
			p := opened(t, &c)
			work(p)
			now := wholly(t, p)
			c.Cut(writes, torn)
			err := p.Commit()
			if err == nil {
				same(t, "behind Commit", p, now)
				tearOpen(t, c, now)
				if writes == 0 || !seen[0] || !seen[1] {
					t.Errorf("it was never torn both ways: %v", seen)
				}
				return
			}
			told(t, "Commit", err, api.ErrDevice)
			if !p.Down() || c.On() {
				t.Errorf("down %v, power %v", p.Down(), c.On())
			}
			c.Cut(-1, 0)
			got := wholly(t, opened(t, &c))
			if got != had && got != now {
				t.Fatalf("writes %d, torn %d: neither all nor nothing", writes, torn)
			}
			if got == now {
				seen[1] = true
			} else {
				seen[0] = true
			}
			if torn == 1 || torn == 251 {
				tearOpen(t, c, got)
			}
			goOn(t, &c, got)
		}
	}
}

// goOn commits something more to a disk on which the power went off.
func goOn(t *testing.T, d *disk.Disk, had string) {
	t.Helper()
	p := opened(t, d)
	k, err := p.Alloc()
	told(t, "Alloc", err, nil)
	has(t, p, k, noughts())
	told(t, "Write", p.Write(k, mixed(k)), nil)
	told(t, "Commit", p.Commit(), nil)
	has(t, opened(t, d), k, mixed(k))
	told(t, "Free", p.Free(k), nil)
	told(t, "Commit", p.Commit(), nil)
	same(t, "gone on", opened(t, d), had)
}

// TestTornCommit: 3.3: wherever the power goes off in a Commit, and in an Open behind it, whatever is torn, all is there, or nothing of it.
func TestTornCommit(t *testing.T) {
	t.Run("the first one", func(t *testing.T) {
		tearCommit(t, disk.Disk{}, func(p *Pager) {
			took(t, p, 1)
			told(t, "Write", p.Write(1, mixed(1)), nil)
			told(t, "SetRoot", p.SetRoot(0, 1, 1), nil)
		})
	})
	d := some(t)
	t.Run("the second one", func(t *testing.T) {
		tearCommit(t, *d, func(p *Pager) { change(t, p) })
	})
	t.Run("a root alone", func(t *testing.T) {
		tearCommit(t, *d, func(p *Pager) { told(t, "SetRoot", p.SetRoot(7, 0, 1), nil) })
	})
	t.Run("all but the roots", func(t *testing.T) {
		tearCommit(t, *d, func(p *Pager) {
			for _, k := range []int{1, 2, 4, 5} {
				told(t, "Write", p.Write(k, leaf("x")), nil)
			}
		})
	})
	t.Run("fewer pages", func(t *testing.T) {
		tearCommit(t, *d, func(p *Pager) {
			for _, k := range []int{1, 2, 5} {
				told(t, "Free", p.Free(k), nil)
			}
		})
	})
	p := opened(t, d)
	change(t, p)
	told(t, "Commit", p.Commit(), nil)
	t.Run("the third one", func(t *testing.T) {
		tearCommit(t, *d, func(p *Pager) {
			told(t, "Write", p.Write(1, leaf("q")), nil)
			told(t, "Write", p.Write(3, leaf("q")), nil)
			told(t, "Free", p.Free(4), nil)
			told(t, "SetRoot", p.SetRoot(1, 1, 1), nil)
		})
	})
}

// TestTornFull: 3.3: all pages are changed at once.
func TestTornFull(t *testing.T) {
	d := disk.Disk{}
	p := opened(t, &d)
	for k := 1; k <= most; k++ {
		took(t, p, k)
		told(t, "Write", p.Write(k, mixed(k)), nil)
	}
	told(t, "Commit", p.Commit(), nil)
	had := wholly(t, opened(t, &d))
	for k := 1; k <= most; k++ {
		told(t, "Write", p.Write(k, mixed(k+5000)), nil)
	}
	now := wholly(t, p)
	for _, writes := range []int{0, 1, 1000, most - 1, most, most + 1, most + 2, 2 * most, 2*most + 1} {
		for _, torn := range []int{0, 1, 600, size} {
			c := d
			p := opened(t, &c)
			for k := 1; k <= most; k++ {
				told(t, "Write", p.Write(k, mixed(k+5000)), nil)
			}
			c.Cut(writes, torn)
			err := p.Commit()
			c.Cut(-1, 0)
			got := wholly(t, opened(t, &c))
			if err == nil && got != now || err != nil && (err != api.ErrDevice || got != now && got != had) {
				t.Errorf("writes %d, torn %d: %v", writes, torn, err)
			}
		}
	}
}

// TestNothingIsKept: P4: a pager keeps no memory of a text that is handed in.
func TestNothingIsKept(t *testing.T) {
	p := opened(t, &disk.Disk{})
	took(t, p, 1)
	b := []byte(leaf("a"))
	told(t, "Write", p.Write(1, unsafe.String(&b[0], len(b))), nil)
	for i := range b {
		b[i] = 'x'
	}
	has(t, p, 1, leaf("a"))
	told(t, "Commit", p.Commit(), nil)
	has(t, p, 1, leaf("a"))
}

// TestAnswersAreFresh: P4: what is read is the caller's own memory, whether it is committed or not.
func TestAnswersAreFresh(t *testing.T) {
	p := opened(t, some(t))
	told(t, "Write", p.Write(1, leaf("a")), nil)
	took(t, p, 3)
	took(t, p, 6)
	for range 2 {
		for _, k := range []int{1, 2, 3, 4, 6} {
			s, _ := p.Read(k)
			want := strings.Clone(s)
			b := unsafe.Slice(unsafe.StringData(s), len(s))
			for i := range b {
				b[i] = 'x'
			}
			has(t, p, k, want)
		}
		told(t, "Commit", p.Commit(), nil)
	}
}

// TestPagersAlone: P4: pagers of two disks have nothing in common.
func TestPagersAlone(t *testing.T) {
	a, b := opened(t, &disk.Disk{}), opened(t, some(t))
	had := wholly(t, b)
	took(t, a, 1)
	told(t, "Write", a.Write(1, leaf("a")), nil)
	told(t, "SetRoot", a.SetRoot(0, 1, 1), nil)
	told(t, "Commit", a.Commit(), nil)
	same(t, "the other one", b, had)
	had = wholly(t, a)
	change(t, b)
	told(t, "Commit", b.Commit(), nil)
	same(t, "the one", a, had)
}

// TestStrangeDisk: P1: no call panics, whatever a disk has.
func TestStrangeDisk(t *testing.T) {
	dice := die(1)
	for n := range 60 {
		d := &disk.Disk{}
		for k := range api.Places {
			b := []byte(mixed(dice.below(1000)))
			if n%3 == 0 {
				b = []byte(leaf("\xff"))
			}
			b[0] = byte(dice.below(4))
			told(t, "disk.Write", d.Write(k, string(b)), nil)
		}
		p := opened(t, d)
		lacks(t, p, 0)
		for range 20 {
			k := dice.below(most + 1)
			p.Read(k)
			p.Write(k, leaf("x"))
			p.Free(k)
			p.Alloc()
			p.Root(k % api.Roots)
			if n := p.Used(); n < 1 || n > most+1 {
				t.Errorf("Used() = %d", n)
			}
		}
		told(t, "Back", p.Back(p.Mark()), nil)
		want := [api.Roots]string{}
		for i := range want {
			want[i] = fmt.Sprint(p.Root(i))
		}
		told(t, "Commit", p.Commit(), nil)
		p = opened(t, d)
		for i := range want {
			if got := fmt.Sprint(p.Root(i)); got != want[i] {
				t.Errorf("Root(%d) = %s, want %s", i, got, want[i])
			}
		}
	}
}
