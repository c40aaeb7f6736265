package finder

import (
	"strings"

	"concordance/api"
	"concordance/posting"
)

// end stands in a key behind the name, and behind the word: neither has it. As it is the least byte, keys have the order of names, then of words, then of rows.
const end = "\x00"

// piece is what one row has of a word.
type piece struct {
	name, word string
	places     []api.Place
}

// start is with what the keys begin of a name's words that begin so.
func start(name, s string) string {
	return name + end + s
}

// key is where a piece stands: its four bytes of the row have the order of rows. It has at most 34 bytes, a piece at most eight more for each of its places (the two that Sum counts among them): so a tree has room for all that may be noted.
func key(name, w string, row int) string {
	r := []byte{byte(row >> 24), byte(row >> 16), byte(row >> 8), byte(row)}
	return start(name, w) + end + string(r)
}

// look looks for the pieces whose keys begin so: take is told of each one, in order. It must hold name and word against what it looks for: what is asked for may have an end's byte in it, and then looks like the key of something else. The tree's errors.
func (f *Finder) look(begin string, take func(p piece)) error {
	pairs, err := f.tree.Prefix(begin)
	if err != nil {
		return err
	}
	for _, p := range pairs {
		name, rest, _ := strings.Cut(p.Key, end)
		w, _, _ := strings.Cut(rest, end)
		places, err := posting.Read(p.Item)
		if err != nil {
			return err
		}
		take(piece{name, w, places})
	}
	return nil
}
