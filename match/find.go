package match

import (
	"concordance/api"
	"concordance/finder"
	"concordance/posting"
)

// search looks for something in a column.
type search struct {
	finder *finder.Finder
	name   string
}

// find is in which rows a query is found. Its left sides are gone through by a loop: a text of many words has as many of them in one another, while right sides stand no deeper than parentheses. The finder's errors.
func (s search) find(q *Query) ([]Hit, error) {
	var above []*Query
	for ; q != nil && (q.Kind == And || q.Kind == Or || q.Kind == Without); q = q.Left {
		above = append(above, q)
	}
	hits, err := s.alone(q)
	for n := len(above); n > 0 && err == nil; n-- {
		var others []Hit
		others, err = s.find(above[n-1].Right)
		hits = together(above[n-1].Kind, hits, others)
	}
	if err != nil {
		return nil, err
	}
	return hits, nil
}

// alone is in which rows a query is found that has no sides. Of what Parse never tells nothing is found. The finder's errors.
func (s search) alone(q *Query) ([]Hit, error) {
	switch {
	case q == nil:
	case q.Kind == Words:
		return s.words(q.Words)
	case q.Kind == Begin && len(q.Words) == 1:
		return s.begin(q.Words[0])
	case q.Kind == Near && len(q.Words) == 2:
		return s.near(q.Words[0], q.Words[1], q.Far)
	}
	return nil, nil
}

// words is in which rows words stand, one right behind the other. The finder's errors.
func (s search) words(words []string) ([]Hit, error) {
	var stand []api.Place
	for i, w := range words {
		l, err := s.finder.Places(s.name, w)
		if err != nil {
			return nil, err
		}
		if i > 0 {
			l = posting.Follow(stand, l)
		}
		if len(l) == 0 {
			return nil, nil
		}
		stand = l
	}
	return count(stand), nil
}

// begin is in which rows words stand that begin so. The finder's errors.
func (s search) begin(start string) ([]Hit, error) {
	words, err := s.finder.Begin(s.name, start)
	if err != nil {
		return nil, err
	}
	var hits []Hit
	for _, w := range words {
		l, err := s.finder.Places(s.name, w)
		if err != nil {
			return nil, err
		}
		hits = together(Or, hits, count(l))
	}
	return hits, nil
}

// near is in which rows two words stand at most so far from each other. The finder's errors.
func (s search) near(w, other string, far int) ([]Hit, error) {
	a, err := s.finder.Places(s.name, w)
	if err != nil {
		return nil, err
	}
	b, err := s.finder.Places(s.name, other)
	if err != nil {
		return nil, err
	}
	var hits []Hit
	for _, row := range posting.Near(a, b, far) {
		hits = append(hits, Hit{row, 1})
	}
	return hits, nil
}

// count is how many places each row has.
func count(l []api.Place) []Hit {
	var hits []Hit
	for _, p := range l {
		if n := len(hits); n > 0 && hits[n-1].Row == p.Row {
			hits[n-1].Often++
		} else {
			hits = append(hits, Hit{p.Row, 1})
		}
	}
	return hits
}

// together is what comes of both sides of a query of this kind. A row that one side lacks is there 0 times: so what both sides have together is right of Without, too.
func together(kind int, a, b []Hit) []Hit {
	var hits []Hit
	for len(a) > 0 || len(b) > 0 {
		first := len(b) == 0 || len(a) > 0 && a[0].Row <= b[0].Row
		second := len(a) == 0 || len(b) > 0 && b[0].Row <= a[0].Row
		var h Hit
		if first {
			h = a[0]
			a = a[1:]
		}
		if second {
			h = Hit{b[0].Row, h.Often + b[0].Often}
			b = b[1:]
		}
		if stays(kind, first, second) {
			hits = append(hits, h)
		}
	}
	return hits
}

// stays says whether a row is found that the first side has, or the second one, or both.
func stays(kind int, first, second bool) bool {
	switch kind {
	case And:
		return first && second
	case Without:
		return !second
	}
	return true
}
