package tree

import (
	"slices"
	"sort"

	"concordance/api"
)

// A tree's pairs lie in leaves, in order, a page a leaf. If there are several of them, a page above, the top, lists them: MaxSum bytes are never too many for one top. Two leaves that stand side by side always have more bytes than a page has room for. So leaves are few, and there are several just when the Sum is above PageSize: the Sum, which is the root's note, tells whether the root's page is a leaf or a top.

// body is which pages a tree has: its leaves, in order, and the top (0: none).
type body struct {
	top    int
	leaves []int
}

// spot is where a key stands, or would stand: in which leaf, what that has, and between which bytes.
type spot struct {
	body
	leaf     int
	text     string
	from, to int
}

// taken says whether something stands there.
func (s spot) taken() bool {
	return s.from < s.to
}

// body is which pages the tree has now. ErrState.
func (t *Tree) body() (body, error) {
	if t.pager.Down() {
		return body{}, api.ErrState
	}
	page, sum, err := t.pager.Root(t.root)
	if err != nil || page == 0 {
		return body{}, err
	}
	if sum <= api.PageSize {
		return body{leaves: []int{page}}, nil
	}
	s, err := t.pager.Read(page)
	return body{page, readTop(s)}, err
}

// seek looks for a key: in the last leaf that does not begin behind it, as it can stand in no other. ErrState.
func (t *Tree) seek(key string) (s spot, err error) {
	if s.body, err = t.body(); err != nil || len(s.leaves) == 0 {
		return s, err
	}
	s.leaf = sort.Search(len(s.leaves)-1, func(i int) bool {
		next, e := t.pager.Read(s.leaves[i+1])
		if e != nil {
			err = e
		}
		return firstKey(next) > key
	})
	if err != nil {
		return s, err
	}
	s.text, err = t.read(s.leaves[s.leaf])
	s.from, s.to = find(s.text, key)
	return s, err
}

// below goes through leaves: do is told what each one has, till it says no.
func (t *Tree) below(leaves []int, do func(text string) bool) error {
	for _, k := range leaves {
		text, err := t.read(k)
		if err != nil || !do(text) {
			return err
		}
	}
	return nil
}

// change lets a pair, as it is written, stand at a spot (empty: nothing), and joins the leaves around it, wherever two fit into one. ErrFull.
func (t *Tree) change(s spot, pair string) error {
	sum := t.Sum() - (s.to - s.from) + len(pair)
	if sum > api.MaxSum {
		return api.ErrFull
	}
	if sum == 0 {
		return t.Clear()
	}
	from, to := max(s.leaf-1, 0), min(s.leaf+2, len(s.leaves))
	var texts []string
	err := t.below(s.leaves[from:to], func(text string) bool {
		texts = append(texts, text)
		return true
	})
	if err != nil {
		return err
	}
	parts := halves(s.text[:s.from] + pair + s.text[s.to:])
	// An empty tree has no leaf that these could take the place of.
	i := s.leaf - from
	texts = slices.Replace(texts, i, min(i+1, len(texts)), parts...)
	return t.lay(s.body, from, to, join(texts), sum)
}

// lay lets texts be the tree's leaves in place of those from one to another, and notes the sum. ErrFull: there are not enough pages; then nothing is changed.
func (t *Tree) lay(b body, from, to int, texts []string, sum int) error {
	// The root's page stands first: so it stays the root's as long as there is one.
	var pages []int
	if b.top != 0 {
		pages = append(pages, b.top)
	}
	pages = append(pages, b.leaves[from:to]...)
	tops := 0
	if len(b.leaves)-(to-from)+len(texts) > 1 {
		tops = 1
	}
	pages, err := t.fit(pages, tops+len(texts))
	if err != nil {
		return err
	}
	if tops > 0 {
		top := writeTop(slices.Concat(b.leaves[:from], pages[tops:], b.leaves[to:]))
		texts = slices.Insert(texts, 0, top)
	}
	for i, s := range texts {
		if err := t.write(pages[i], s); err != nil {
			return err
		}
	}
	root := 0
	if len(pages) > 0 {
		root = pages[0]
	}
	return t.pager.SetRoot(t.root, root, sum)
}

// fit makes a list of pages so long: it takes new ones, or gives the last ones back. ErrFull: there are not enough; then none are taken.
func (t *Tree) fit(pages []int, want int) ([]int, error) {
	had := len(pages)
	for len(pages) < want {
		k, err := t.pager.Alloc()
		if err != nil {
			t.fit(pages, had)
			return nil, err
		}
		pages = append(pages, k)
	}
	for _, k := range pages[want:] {
		if err := t.pager.Free(k); err != nil {
			return nil, err
		}
	}
	return pages[:want], nil
}

// read is what a leaf has, without the noughts behind it.
func (t *Tree) read(k int) (string, error) {
	s, err := t.pager.Read(k)
	return s[:filled(s)], err
}

// write lets a page have a text, and noughts behind it. What is so already is not written: a Commit would bring it to the disk again.
func (t *Tree) write(k int, text string) error {
	b := make([]byte, api.PageSize)
	copy(b, text)
	had, err := t.pager.Read(k)
	if err != nil || had == string(b) {
		return err
	}
	return t.pager.Write(k, string(b))
}
