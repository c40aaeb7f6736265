package match

import (
	"strings"

	"concordance/api"
	"concordance/word"
)

// Runs that are no words, where they may stand.
const (
	andSign  = "AND"
	orSign   = "OR"
	notSign  = "NOT"
	nearSign = "NEAR"
)

// far is how far two words may be from each other that are NEAR.
const far = 3

// wrong is thrown where a text is not as it must be: a type of its own, so that nothing else passes for it.
type wrong struct{ errno api.Errno }

// told is the error that was thrown. Anything else that was thrown is a fault of the program, and no text is to blame for it.
func told(thrown any) error {
	w, ok := thrown.(wrong)
	if !ok {
		panic(thrown)
	}
	return w.errno
}

// must throws ErrForm, unless it is so.
func must(so bool) {
	if !so {
		panic(wrong{api.ErrForm})
	}
}

// reader goes through a text, piece by piece.
type reader struct {
	now  piece  // the first one that is not taken yet
	rest string // what stands behind it
}

// read reads a whole text. It throws.
func read(s string) *Query {
	// Quotes have no quotes in them: each one begins or ends some, by turns. So it can be told ahead of all that the last ones do not end.
	must(strings.Count(s, `"`)%2 == 0)
	r := &reader{rest: s}
	r.take()
	q := r.any(0)
	must(r.now.kind == end)
	return q
}

// take is the first piece that is not taken yet; then it is.
func (r *reader) take() piece {
	p := r.now
	r.now, r.rest = cut(r.rest)
	return p
}

// sign says whether a sign stands there; then it is taken.
func (r *reader) sign(s string) bool {
	if !r.now.is(s) {
		return false
	}
	r.take()
	return true
}

// any reads ANY, in so many parentheses.
func (r *reader) any(deep int) *Query {
	q := r.all(deep)
	for r.sign(orSign) {
		q = &Query{Kind: Or, Left: q, Right: r.all(deep)}
	}
	return q
}

// all reads ALL.
func (r *reader) all(deep int) *Query {
	q := r.one(deep)
	for r.now.kind != end && r.now.kind != closes && !r.now.is(orSign) {
		kind := And
		if r.sign(notSign) {
			kind = Without
		} else {
			r.sign(andSign)
		}
		q = &Query{Kind: kind, Left: q, Right: r.one(deep)}
	}
	return q
}

// one reads ONE.
func (r *reader) one(deep int) *Query {
	if deep > api.MaxDepth {
		panic(wrong{api.ErrLimit})
	}
	p := r.take()
	switch p.kind {
	case opens:
		q := r.any(deep + 1)
		must(r.take().kind == closes)
		return q
	case quoted:
		l := word.Split(p.text)
		must(len(l) > 0)
		return &Query{Kind: Words, Words: l}
	}
	must(p.kind == run && !isSign(p.text))
	if r.now.kind == star {
		r.take()
		return &Query{Kind: Begin, Words: []string{beginning(p.text)}}
	}
	w := plain(p.text)
	if r.sign(nearSign) {
		behind := r.take()
		must(behind.kind == run)
		return &Query{Kind: Near, Words: []string{w, plain(behind.text)}, Far: far}
	}
	return &Query{Kind: Words, Words: []string{w}}
}

// isSign says whether a run is a sign, which begins nothing.
func isSign(s string) bool {
	return s == andSign || s == orSign || s == notSign || s == nearSign
}

// plain is the one word of a run. It throws.
func plain(s string) string {
	l := word.Split(s)
	must(len(l) == 1)
	return l[0]
}

// beginning is with what words begin: a run in small letters, but no Stem, as a word that begins so need not end so. It throws.
func beginning(s string) string {
	must(len(s) <= api.MaxWord)
	s = word.Small(s)
	for i := range len(s) {
		c := s[i]
		must(c >= 'a' && c <= 'z' || c >= '0' && c <= '9')
	}
	return s
}
