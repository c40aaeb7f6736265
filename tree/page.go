package tree

import "concordance/api"

// lengths is how many bytes of a pair tell how long its key and its item are.
const lengths = 2

// writePair is a pair as it stands in a leaf: the lengths of key and item, a byte each, then both: just as many bytes as Sum counts.
func writePair(p Pair) string {
	return string([]byte{byte(len(p.Key)), byte(len(p.Item))}) + p.Key + p.Item
}

// eachPair goes through a leaf's pairs: do is told of each one, and where it ends, till it says no. It says whether do never did. Behind the last pair a leaf has noughts, or nothing: no key is so short.
func eachPair(leaf string, do func(p Pair, end int) bool) bool {
	for at := 0; at+lengths <= len(leaf) && leaf[at] != 0; {
		item := at + lengths + int(leaf[at])
		end := item + int(leaf[at+1])
		if end > len(leaf) {
			break
		}
		if !do(Pair{leaf[at+lengths : item], leaf[item:end]}, end) {
			return false
		}
		at = end
	}
	return true
}

// filled is how many bytes a leaf's pairs have.
func filled(leaf string) (many int) {
	eachPair(leaf, func(_ Pair, end int) bool {
		many = end
		return true
	})
	return many
}

// firstKey is a leaf's first key.
func firstKey(leaf string) (key string) {
	eachPair(leaf, func(p Pair, _ int) bool {
		key = p.Key
		return false
	})
	return key
}

// find is between which bytes of a leaf a key's pair stands, or, twice the same, where it would stand.
func find(leaf, key string) (from, to int) {
	eachPair(leaf, func(p Pair, end int) bool {
		if p.Key > key {
			return false
		}
		to = end
		if p.Key < key {
			from = end
		}
		return p.Key < key
	})
	return from, to
}

// halves is a text in one piece, or, if a page has no room for it, in two.
func halves(text string) []string {
	if len(text) <= api.PageSize {
		return []string{text}
	}
	cut := 0
	eachPair(text, func(_ Pair, end int) bool {
		cut = end
		return cut < len(text)/2
	})
	return []string{text[:cut], text[cut:]}
}

// join puts texts side by side together, wherever a page has room for them.
func join(texts []string) []string {
	var l []string
	for _, s := range texts {
		if n := len(l) - 1; n >= 0 && len(l[n])+len(s) <= api.PageSize {
			l[n] += s
		} else {
			l = append(l, s)
		}
	}
	return l
}

// writeTop is a top's page: its leaves, two bytes a page.
func writeTop(leaves []int) string {
	var b []byte
	for _, k := range leaves {
		b = append(b, byte(k>>8), byte(k))
	}
	return string(b)
}

// readTop is which leaves a top lists. Behind the last one a page has noughts, or nothing.
func readTop(s string) (leaves []int) {
	for ; len(s) > 1; s = s[2:] {
		k := int(s[0])<<8 | int(s[1])
		if k == 0 {
			break
		}
		leaves = append(leaves, k)
	}
	return leaves
}
