package parse

import (
	"concordance/api"
	"concordance/lex"
)

// noNames are the words that are no names, wherever they stand.
var noNames = [...]string{
	"and", "asc", "begin", "by", "commit", "count", "create", "delete", "desc", "drop", "from", "group",
	"in", "index", "insert", "int", "into", "is", "join", "limit", "match", "max", "min", "not",
	"null", "on", "or", "order", "rank", "rollback", "select", "set", "sum", "table", "text", "update",
	"values", "where", "words",
}

// wrong is thrown at a token that may not stand there: a type of its own, so that nothing else passes for it.
type wrong struct {
	errno api.Errno
	place int
}

// told is the error that was thrown. Anything else that was thrown is a fault of the program, and no text is to blame for it.
func told(thrown any) error {
	w, ok := thrown.(wrong)
	if !ok {
		panic(thrown)
	}
	return &api.At{Err: w.errno, Place: w.place}
}

// reader goes through a statement, token by token. Its methods throw at the first one that may not stand there: nothing is taken ahead of it being known that it may.
type reader struct {
	left []lex.Token // those that are not taken yet: the End is never taken
}

func (r *reader) now() lex.Token { return r.left[0] }

func (r *reader) take() { r.left = r.left[1:] }

// must throws ErrForm at the next token, unless it is so.
func (r *reader) must(so bool) {
	if !so {
		panic(wrong{api.ErrForm, r.now().At})
	}
}

// atMost throws ErrLimit at the next token, if there is more than there may be.
func (r *reader) atMost(n, most int) {
	if n > most {
		panic(wrong{api.ErrLimit, r.now().At})
	}
}

// is says whether a word or a mark stands there: a String that says the same is none.
func (r *reader) is(s string) bool {
	k := r.now()
	return (k.Kind == lex.Name || k.Kind == lex.Mark) && k.Text == s
}

// has says whether a word or a mark stands there; then it is taken.
func (r *reader) has(s string) bool {
	if !r.is(s) {
		return false
	}
	r.take()
	return true
}

// need takes a word or a mark, which must stand there.
func (r *reader) need(s string) { r.must(r.has(s)) }

// isName says whether a NAME stands there, however long it is.
func (r *reader) isName() bool {
	k := r.now()
	if k.Kind != lex.Name {
		return false
	}
	for _, s := range noNames {
		if k.Text == s {
			return false
		}
	}
	return true
}

// name takes a NAME.
func (r *reader) name() string {
	r.must(r.isName())
	s := r.now().Text
	r.atMost(len(s), api.MaxName)
	r.take()
	return s
}

// list takes things with a , between them: at least one.
func (r *reader) list(take func()) {
	take()
	for r.has(",") {
		take()
	}
}

// inside takes what stands between ( and ).
func (r *reader) inside(take func()) {
	r.need("(")
	take()
	r.need(")")
}
