package disk

import (
	"fmt"
	"math"
	"strings"
	"testing"
	"unsafe"

	"concordance/api"
)

// leaf is a page of one letter.
func leaf(letter string) string { return strings.Repeat(letter, api.PageSize) }

// mixed is a page whose bytes tell where they stand, another one for each n.
func mixed(n int) string {
	b := make([]byte, api.PageSize)
	for i := range b {
		b[i] = byte(n*37 + i*i + i>>8)
	}
	return string(b)
}

// has fails, unless a page has these bytes.
func has(t *testing.T, d *Disk, k int, want string) {
	t.Helper()
	got, err := d.Read(k)
	if err != nil {
		t.Errorf("Read(%d): %v", k, err)
	}
	if got != want {
		t.Errorf("page %d is %s, want %s", k, brief(got), brief(want))
	}
}

// brief is a text's length, and its first few runs of one letter.
func brief(s string) string {
	out := fmt.Sprint(len(s), " bytes:")
	for runs := 0; s != "" && runs < 6; runs++ {
		n := 1
		for n < len(s) && s[n] == s[0] {
			n++
		}
		out += fmt.Sprintf(" %d of %x", n, s[0])
		s = s[n:]
	}
	return out
}

// wrote fails, unless a write answers this error, as it is.
func wrote(t *testing.T, d *Disk, k int, s string, want error) {
	t.Helper()
	if err := d.Write(k, s); err != want {
		t.Errorf("Write(%d, %s): %v, want %v", k, brief(s), err, want)
	}
}

// powered fails, unless On says so.
func powered(t *testing.T, d *Disk, want bool) {
	t.Helper()
	if d.On() != want {
		t.Errorf("On() = %v, want %v", !want, want)
	}
}

// TestZeroValue: 2.1: Places pages of PageSize bytes 0, and power.
func TestZeroValue(t *testing.T) {
	var d Disk
	powered(t, &d, true)
	if api.Places != 2*api.MaxPages+1 {
		t.Errorf("Places is %d", api.Places)
	}
	for k := range api.Places {
		has(t, &d, k, leaf("\x00"))
	}
	powered(t, &d, true)
}

// TestPowerStays: 2.1: without a Cut the power does not end, nor behind a Cut below 0.
func TestPowerStays(t *testing.T) {
	for _, writes := range []int{0, -1, -2, -1000, math.MinInt} {
		var d Disk
		if writes < 0 {
			d.Cut(writes, 5)
		}
		for k := range 3 * api.Places {
			if err := d.Write(k%api.Places, mixed(k)); err != nil || !d.On() {
				t.Fatalf("Cut(%d): write %d: %v, %v", writes, k, err, d.On())
			}
		}
		for k := range api.Places {
			has(t, &d, k, mixed(k+2*api.Places))
		}
	}
}

// TestWrite: 2.1: the page is what was written last, and no other page is changed.
func TestWrite(t *testing.T) {
	var d Disk
	for _, k := range []int{0, 1, 2, api.MaxPages, api.Places - 2, api.Places - 1} {
		wrote(t, &d, k, leaf("a"), nil)
		wrote(t, &d, k, mixed(k), nil)
	}
	for k := range api.Places {
		switch k {
		case 0, 1, 2, api.MaxPages, api.Places - 2, api.Places - 1:
			has(t, &d, k, mixed(k))
		default:
			has(t, &d, k, leaf("\x00"))
		}
	}
	wrote(t, &d, 1, leaf("\x00"), nil)
	has(t, &d, 1, leaf("\x00"))
	powered(t, &d, true)
}

// outside has numbers of no page.
func outside() []int {
	return []int{-1, -2, -api.Places, math.MinInt, api.Places, api.Places + 1, 2 * api.Places, math.MaxInt, 1 << 32, -1 << 32}
}

// TestReadOutside: 2.1, P2, P3: ErrRange, without bytes.
func TestReadOutside(t *testing.T) {
	var d Disk
	for _, off := range []bool{false, true} {
		if off {
			d.Cut(0, 0)
		}
		for _, k := range outside() {
			if s, err := d.Read(k); s != "" || err != api.ErrRange {
				t.Errorf("Read(%d) = %s, %v", k, brief(s), err)
			}
		}
	}
}

// wrongPages has texts that are no page.
func wrongPages() []string {
	return []string{"", "x", leaf("x")[1:], leaf("x") + "x", leaf("x") + leaf("x"), strings.Repeat("x", 1<<16)}
}

// TestWriteWrong: 2.1, P2, P3: ErrRange is told ahead of ErrArg, that ahead of ErrDevice; nothing is changed by either: no write is spent, and the first write without power is still to come.
func TestWriteWrong(t *testing.T) {
	for _, left := range []int{-1, 0, 1} {
		var d Disk
		wrote(t, &d, 0, leaf("a"), nil)
		wrote(t, &d, api.Places-1, leaf("z"), nil)
		d.Cut(left, 7)
		for _, k := range outside() {
			for _, s := range append(wrongPages(), leaf("x")) {
				wrote(t, &d, k, s, api.ErrRange)
			}
		}
		for _, k := range []int{0, 1, api.Places - 1} {
			for _, s := range wrongPages() {
				wrote(t, &d, k, s, api.ErrArg)
			}
		}
		has(t, &d, 0, leaf("a"))
		has(t, &d, 1, leaf("\x00"))
		has(t, &d, api.Places-1, leaf("z"))
		powered(t, &d, left != 0)
		if left == 1 {
			wrote(t, &d, 1, leaf("b"), nil)
			has(t, &d, 1, leaf("b"))
		}
		if left >= 0 {
			powered(t, &d, false)
			wrote(t, &d, 0, leaf("c"), api.ErrDevice)
			has(t, &d, 0, leaf("c")[:7]+leaf("a")[7:])
		}
	}
}

// TestCut: 2.1: the power goes off behind just so many writes, wherever they go to.
func TestCut(t *testing.T) {
	for writes := range 20 {
		var d Disk
		d.Cut(writes, 0)
		for i := range writes {
			powered(t, &d, true)
			wrote(t, &d, i/2, mixed(i), nil)
			has(t, &d, i/2, mixed(i))
		}
		for i := range 3 {
			powered(t, &d, false)
			had, _ := d.Read(i)
			wrote(t, &d, i, leaf("x"), api.ErrDevice)
			has(t, &d, i, had)
		}
	}
	var d Disk
	d.Cut(math.MaxInt, math.MaxInt)
	for k := range 100 {
		wrote(t, &d, k, mixed(k), nil)
		powered(t, &d, true)
	}
}

// TestTorn: 2.1: the first write without power leaves torn bytes, cut to 0 to PageSize, and behind them what the page had; those behind it leave none.
func TestTorn(t *testing.T) {
	const size = api.PageSize
	for torn, n := range map[int]int{
		math.MinInt: 0, -size: 0, -1: 0, 0: 0, 1: 1, 2: 2, 511: 511, size / 2: size / 2, size - 1: size - 1,
		size: size, size + 1: size, 2 * size: size, math.MaxInt: size,
	} {
		for writes := range 3 {
			var d Disk
			wrote(t, &d, 1, mixed(1), nil)
			d.Cut(writes, torn)
			for range writes {
				wrote(t, &d, 2, mixed(2), nil)
			}
			wrote(t, &d, 1, mixed(3), api.ErrDevice)
			has(t, &d, 1, mixed(3)[:n]+mixed(1)[n:])
			powered(t, &d, false)
			wrote(t, &d, 1, mixed(4), api.ErrDevice)
			wrote(t, &d, 2, mixed(5), api.ErrDevice)
			wrote(t, &d, 3, mixed(6), api.ErrDevice)
			has(t, &d, 1, mixed(3)[:n]+mixed(1)[n:])
			if writes > 0 {
				has(t, &d, 2, mixed(2))
			} else {
				has(t, &d, 2, leaf("\x00"))
			}
			has(t, &d, 3, leaf("\x00"))
			powered(t, &d, false)
		}
	}
}

// TestTornNew: 2.1: a page that nobody wrote to has noughts behind the torn bytes.
func TestTornNew(t *testing.T) {
	for _, n := range []int{0, 1, 600, api.PageSize} {
		var d Disk
		d.Cut(0, n)
		wrote(t, &d, 9, leaf("x"), api.ErrDevice)
		has(t, &d, 9, strings.Repeat("x", n)+strings.Repeat("\x00", api.PageSize-n))
	}
}

// TestCutAnew: 2.1: a Cut takes the place of the one ahead of it, and has a first write without power of its own.
func TestCutAnew(t *testing.T) {
	var d Disk
	d.Cut(0, 10)
	wrote(t, &d, 1, leaf("a"), api.ErrDevice)
	d.Cut(0, 5)
	powered(t, &d, false)
	wrote(t, &d, 1, leaf("b"), api.ErrDevice)
	has(t, &d, 1, "bbbbbaaaaa"+leaf("\x00")[10:])
	wrote(t, &d, 1, leaf("c"), api.ErrDevice)
	has(t, &d, 1, "bbbbbaaaaa"+leaf("\x00")[10:])

	d.Cut(2, 3)
	powered(t, &d, true)
	wrote(t, &d, 1, leaf("d"), nil)
	d.Cut(2, 4) // the one write left of the first two is gone
	wrote(t, &d, 1, leaf("e"), nil)
	powered(t, &d, true)
	wrote(t, &d, 1, leaf("f"), nil)
	powered(t, &d, false)
	wrote(t, &d, 1, leaf("g"), api.ErrDevice)
	has(t, &d, 1, "gggg"+leaf("f")[4:])

	d.Cut(3, 8)
	d.Cut(0, 1)
	wrote(t, &d, 1, leaf("h"), api.ErrDevice)
	has(t, &d, 1, "hggg"+leaf("f")[4:])

	d.Cut(-1, 8)
	powered(t, &d, true)
	for range 10 {
		wrote(t, &d, 1, leaf("i"), nil)
		powered(t, &d, true)
	}
	has(t, &d, 1, leaf("i"))

	d.Cut(0, 8) // no write comes, and it is cut anew
	d.Cut(0, 0)
	wrote(t, &d, 1, leaf("j"), api.ErrDevice)
	has(t, &d, 1, leaf("i"))
}

// TestReadWithoutPower: 2.1: only writes take power.
func TestReadWithoutPower(t *testing.T) {
	var d Disk
	wrote(t, &d, 4, mixed(4), nil)
	d.Cut(1, 2)
	for range 10 {
		has(t, &d, 4, mixed(4))
		powered(t, &d, true)
	}
	wrote(t, &d, 5, mixed(5), nil)
	for range 10 {
		has(t, &d, 4, mixed(4))
		has(t, &d, 5, mixed(5))
		powered(t, &d, false)
	}
	wrote(t, &d, 4, leaf("x"), api.ErrDevice)
	has(t, &d, 4, "xx"+mixed(4)[2:])
}

// TestDisksAlone: P4: what a disk answers hangs on the calls on it alone.
func TestDisksAlone(t *testing.T) {
	var a, b Disk
	wrote(t, &a, 0, leaf("a"), nil)
	a.Cut(0, 0)
	has(t, &b, 0, leaf("\x00"))
	powered(t, &b, true)
	wrote(t, &b, 0, leaf("b"), nil)
	has(t, &a, 0, leaf("a"))
	powered(t, &a, false)
}

// TestNothingIsKept: P4: the disk keeps no memory of a text that is handed in.
func TestNothingIsKept(t *testing.T) {
	for _, torn := range []int{-1, 0, 1, api.PageSize} {
		var d Disk
		b := []byte(leaf("a"))
		if torn >= 0 {
			d.Cut(0, torn)
		}
		d.Write(1, unsafe.String(&b[0], len(b)))
		want, _ := d.Read(1)
		want = strings.Clone(want)
		for i := range b {
			b[i] = 'x'
		}
		has(t, &d, 1, want)
	}
}

// TestAnswersAreFresh: P4: no two answers share memory, nor does the disk with them.
func TestAnswersAreFresh(t *testing.T) {
	var d Disk
	d.Write(1, leaf("a"))
	d.Cut(0, 10)
	d.Write(2, leaf("b"))
	for k := range 4 {
		s, _ := d.Read(k)
		want := strings.Clone(s)
		b := unsafe.Slice(unsafe.StringData(s), len(s))
		for i := range b {
			b[i] = 'x'
		}
		has(t, &d, k, want)
	}
}

// model is a disk by its promise alone: bytes, and a list of what the writes to come do.
type model struct {
	pages [api.Places][api.PageSize]byte
	cut   bool
	tears []int // how many bytes each write from now on leaves; behind them none
}

func (m *model) Cut(writes, torn int) {
	m.cut, m.tears = writes >= 0, nil
	for range writes {
		m.tears = append(m.tears, api.PageSize)
	}
	m.tears = append(m.tears, torn)
}

func (m *model) On() bool { return !m.cut || len(m.tears) > 1 }

func (m *model) Write(k int, s string) error {
	switch {
	case k < 0, k >= len(m.pages):
		return api.ErrRange
	case len(s) != len(m.pages[k]):
		return api.ErrArg
	case !m.cut:
		copy(m.pages[k][:], s)
		return nil
	}
	on := m.On()
	if len(m.tears) > 0 {
		if n := m.tears[0]; n > len(s) {
			copy(m.pages[k][:], s)
		} else if n > 0 {
			copy(m.pages[k][:n], s)
		}
		m.tears = m.tears[1:]
	}
	if on {
		return nil
	}
	return api.ErrDevice
}

// die: numbers that look drawn, the same each time.
type die uint64

func (d *die) below(n int) int {
	*d = *d*6364136223846793005 + 1442695040888963407
	return int(uint64(*d>>33) % uint64(n))
}

// TestManySteps: 2.1: whatever comes behind whatever, a disk does what its promise says.
func TestManySteps(t *testing.T) {
	d := die(7)
	for round := range 20 {
		var x Disk
		m := new(model)
		for step := range 500 {
			k := [...]int{-1, 0, 1, 2, 3, api.Places - 1, api.Places}[d.below(7)]
			switch d.below(10) {
			case 0, 1:
				writes, torn := d.below(8)-1, d.below(2*api.PageSize)-api.PageSize/2
				x.Cut(writes, torn)
				m.Cut(writes, torn)
			default:
				s := mixed(d.below(256))
				if d.below(8) == 0 {
					s = s[d.below(2):] + "x"
				}
				if got, want := x.Write(k, s), m.Write(k, s); got != want {
					t.Fatalf("round %d, step %d: Write(%d, ..): %v, want %v", round, step, k, got, want)
				}
			}
			if x.On() != m.On() {
				t.Fatalf("round %d, step %d: On() = %v", round, step, x.On())
			}
			for _, k := range []int{0, 1, 2, 3, 4, api.Places - 1} {
				if s, err := x.Read(k); err != nil || s != string(m.pages[k][:]) {
					t.Fatalf("round %d, step %d: Read(%d): another page; %v", round, step, k, err)
				}
			}
		}
	}
}
