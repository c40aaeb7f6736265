package tree

import (
	"fmt"
	"slices"
	"strings"
	"testing"

	"concordance/api"
	"concordance/disk"
	"concordance/pager"
)

// die: numbers that look drawn, the same each time.
type die uint64

func (d *die) below(n int) int {
	*d = *d*6364136223846793005 + 1442695040888963407
	return int(uint64(*d>>33) % uint64(n))
}

// plain is a tree by its promise alone: a list of pairs, in order.
type plain []Pair

// place is where a key stands, or would stand.
func (l plain) place(key string) (int, bool) {
	for i, p := range l {
		if p.Key >= key {
			return i, p.Key == key
		}
	}
	return len(l), false
}

func (l *plain) Put(key, item string) error {
	if len(key) < 1 || len(key) > 60 || len(item) > 100 {
		return api.ErrArg
	}
	i, found := l.place(key)
	m := slices.Clone(*l)
	if found {
		m[i].Item = item
	} else {
		m = slices.Insert(m, i, Pair{key, item})
	}
	if sized(m) > 30000 {
		return api.ErrFull
	}
	*l = m
	return nil
}

func (l *plain) Drop(key string) error {
	i, found := l.place(key)
	if !found {
		return api.ErrMissing
	}
	*l = slices.Delete(slices.Clone(*l), i, i+1)
	return nil
}

func (l plain) Get(key string) (string, error) {
	i, found := l.place(key)
	if !found {
		return "", api.ErrMissing
	}
	return l[i].Item, nil
}

func (l plain) Walk(from string, most int) []Pair {
	i, _ := l.place(from)
	if most < 0 || most > len(l)-i {
		most = len(l) - i
	}
	return l[i : i+most]
}

func (l plain) Prefix(s string) []Pair {
	var m []Pair
	for _, p := range l {
		if strings.HasPrefix(p.Key, s) {
			m = append(m, p)
		}
	}
	return m
}

// orders are ways to go through so many things, each once.
func orders() map[string]func(n int) []int {
	upwards := func(n int) []int {
		l := make([]int, n)
		for i := range l {
			l[i] = i
		}
		return l
	}
	return map[string]func(n int) []int{
		"upwards": upwards,
		"downwards": func(n int) []int {
			l := upwards(n)
			slices.Reverse(l)
			return l
		},
		"from both ends": func(n int) []int {
			l := upwards(n)
			for i := range l {
				l[i] = i / 2
				if i%2 == 1 {
					l[i] = n - 1 - i/2
				}
			}
			return l
		},
		"from the middle": func(n int) []int {
			l := upwards(n)
			slices.SortStableFunc(l, func(a, b int) int { return max(a-n/2, n/2-a) - max(b-n/2, n/2-b) })
			return l
		},
		"each tenth": func(n int) []int {
			l := upwards(n)
			slices.SortStableFunc(l, func(a, b int) int { return a%10 - b%10 })
			return l
		},
		"drawn": func(n int) []int {
			dice, l := die(n), upwards(n)
			for i := range l {
				j := i + dice.below(n-i)
				l[i], l[j] = l[j], l[i]
			}
			return l
		},
	}
}

// crowds are lists of pairs, in order, each with a Sum of at most MaxSum.
func crowds() map[string][]Pair {
	return map[string][]Pair{
		"small ones": crowd(1000, func(i int) Pair { return Pair{numbered(i, 4), ""} }),
		// Of these so many as fill a page to the last byte.
		"even ones":  crowd(200, func(i int) Pair { return Pair{numbered(i, 4), letters("i", 10)} }),
		"great ones": crowd(185, func(i int) Pair { return Pair{letters("k", 55) + numbered(i, 5), letters("i", 100)} }),
		"uneven ones": crowd(500, func(i int) Pair {
			return Pair{numbered(i, 4) + letters("\x00", i*i%57), letters("\x00", i*i%11*i%100/3)}
		}),
		"great ones among small ones": crowd(600, func(i int) Pair {
			if i%20 < 3 {
				return Pair{numbered(i, 60), letters("\xff", 100)}
			}
			return Pair{numbered(i, 60)[56:], letters("\xff", i%9)}
		}),
	}
}

// crowd are so many pairs, in the order of their keys.
func crowd(many int, make func(i int) Pair) (l []Pair) {
	for i := range many {
		l = append(l, make(i))
	}
	slices.SortFunc(l, func(a, b Pair) int { return strings.Compare(a.Key, b.Key) })
	return slices.CompactFunc(l, func(a, b Pair) bool { return a.Key == b.Key })
}

// TestOrders: 4.2, 4.3: pairs are put in many orders and dropped in many, held against a plain list; the tree grows and shrinks till no page is in use any more.
func TestOrders(t *testing.T) {
	for what, pairs := range crowds() {
		for come, first := range orders() {
			for leave, then := range orders() {
				t.Run(fmt.Sprint(what, ", put ", come, ", dropped ", leave), func(t *testing.T) {
					t.Parallel()
					p := opened(t, &disk.Disk{})
					inOrder(t, p, at(t, p, 2), pairs, first(len(pairs)), then(len(pairs)))
				})
			}
		}
	}
}

// inOrder puts all pairs, and drops them.
func inOrder(t *testing.T, p *pager.Pager, r *Tree, pairs []Pair, first, then []int) {
	var l plain
	for n, i := range first {
		told(t, "Put", r.Put(pairs[i].Key, pairs[i].Item), l.Put(pairs[i].Key, pairs[i].Item))
		shaped(t, p, 0, r)
		if n%199 == 0 {
			has(t, r, l...)
		}
	}
	has(t, r, pairs...)
	for n, i := range then {
		told(t, "Drop", r.Drop(pairs[i].Key), l.Drop(pairs[i].Key))
		shaped(t, p, 0, r)
		if n%199 == 0 {
			has(t, r, l...)
		}
	}
	bare(t, p, r)
	shaped(t, p, 0)
}

// grove is a pager with two trees, and plain lists of what they have.
type grove struct {
	t       *testing.T
	dice    die
	style   int
	disk    *disk.Disk
	pager   *pager.Pager
	trees   [2]*Tree
	lists   [2]plain
	last    [2]plain
	mark    pager.Mark
	noted   [2]plain
	commits int
	at      int // how many commits there were at the mark
}

// anew opens the disk.
func (g *grove) anew() {
	g.pager = opened(g.t, g.disk)
	g.trees = [2]*Tree{at(g.t, g.pager, 7), at(g.t, g.pager, 2)}
	g.lists = g.last
	g.note()
}

// note takes a Mark.
func (g *grove) note() {
	g.mark, g.noted, g.at = g.pager.Mark(), g.lists, g.commits
}

// key is one of many or of few, of a kind that the style tells.
func (g *grove) key() string {
	one := func(n int) string { return string([]byte{byte(g.dice.below(n) * 255 / (n - 1))}) }
	switch g.style {
	case 0:
		return letters(one(3), g.dice.below(12)) + one(256)
	case 1:
		return letters("k", 40+g.dice.below(20)) + one(9)
	case 2:
		return numbered(g.dice.below(900), 3) + letters("\x00", g.dice.below(2))
	case 3:
		return letters(one(2), g.dice.below(63))
	}
	return one(256) + one(256) + letters(one(256), g.dice.below(50))
}

// item is one, perhaps too long.
func (g *grove) item() string {
	return letters(string([]byte{byte(g.dice.below(256))}), []int{0, 1, g.dice.below(30), g.dice.below(102), 100}[g.dice.below(5)])
}

// step does one thing to both a tree and its list. Each hundred steps there are mostly puts, or mostly drops.
func (g *grove) step(n int) string {
	i, what, key := g.dice.below(2), g.dice.below(20), g.key()
	r, l := g.trees[i], &g.lists[i]
	if n/100%2 == 1 && what < 8 {
		what = 10
	}
	if what == 10 && len(*l) > 0 {
		key = (*l)[g.dice.below(len(*l))].Key
	}
	said := fmt.Sprintf("%d %d %q", i, what, key)
	switch {
	case what < 10:
		item := g.item()
		told(g.t, said+": Put", r.Put(key, item), l.Put(key, item))
	case what < 13:
		told(g.t, said+": Drop", r.Drop(key), l.Drop(key))
	case what < 15:
		most := g.dice.below(30) - 2
		if m, err := r.Walk(key, most); err != nil || !slices.Equal(m, l.Walk(key, most)) {
			g.t.Errorf("%s: Walk %d: %v", said, most, err)
		}
	case what < 17:
		s := key[:len(key)/2]
		if m, err := r.Prefix(s); err != nil || !slices.Equal(m, l.Prefix(s)) {
			g.t.Errorf("%s: Prefix: %v", said, err)
		}
	default:
		g.turn(i)
	}
	// The trees, too, may be others by now.
	s, err := g.trees[i].Get(key)
	if want, e := l.Get(key); s != want || err != e {
		g.t.Errorf("%s: Get: %q, %v", said, s, err)
	}
	return said
}

// turn does something rare: to a tree, or to the pager beneath both.
func (g *grove) turn(i int) {
	switch g.dice.below(12) {
	case 0:
		told(g.t, "Clear", g.trees[i].Clear(), nil)
		g.lists[i] = nil
	case 1, 2, 3:
		told(g.t, "Commit", g.pager.Commit(), nil)
		g.last = g.lists
		g.commits++
	case 4:
		told(g.t, "Rollback", g.pager.Rollback(), nil)
		g.lists = g.last
	case 5, 6:
		g.note()
	case 7:
		if g.at == g.commits {
			told(g.t, "Back", g.pager.Back(g.mark), nil)
			g.lists = g.noted
		}
	case 8:
		g.anew()
	}
}

// TestModel: 4.1, 4.2, 4.3: many steps on two trees of one pager, which takes back, commits and is opened anew, each held against plain lists.
func TestModel(t *testing.T) {
	for seed := range 40 {
		g := &grove{t: t, dice: die(seed), style: seed % 5, disk: &disk.Disk{}}
		g.anew()
		var trace []string
		for n := range 1200 {
			trace = append(trace, g.step(n))
			shaped(t, g.pager, 0, g.trees[0], g.trees[1])
			if n%20 == 0 {
				has(t, g.trees[0], g.lists[0]...)
				has(t, g.trees[1], g.lists[1]...)
			}
			if t.Failed() {
				t.Fatalf("seed %d, step %d, at last: %q", seed, n, trace[max(n-5, 0):])
			}
		}
	}
}
