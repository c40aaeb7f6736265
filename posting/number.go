package posting

import "concordance/api"

const (
	bits = 7         // of a number, in a byte
	more = 1 << bits // added to a byte behind which more of its number follows
)

// mostBytes is enough for every number that Write tells: the greatest one is 2*rows+1.
const mostBytes = 5

// appendNumber writes a number behind b, its least bits first.
func appendNumber(b []byte, n uint64) []byte {
	for n >= more {
		b = append(b, byte(n%more+more))
		n >>= bits
	}
	return append(b, byte(n))
}

// readNumber is the number with which s begins, and in how many bytes it is written (0: it is none, or one that appendNumber writes otherwise, or that is too great).
func readNumber(s string) (int, int) {
	n := 0
	for i := range min(len(s), mostBytes) {
		n |= int(s[i]%more) << (bits * i)
		if s[i] < more {
			if i > 0 && s[i] == 0 {
				return 0, 0
			}
			return n, i + 1
		}
	}
	return 0, 0
}

// readPlace is the place with which s begins, and in how many bytes it is written (0: none is that may stand there).
func readPlace(s string, ahead api.Place) (api.Place, int) {
	step, n := readNumber(s)
	if n == 0 {
		return api.Place{}, 0
	}
	p := api.Place{Row: ahead.Row, At: ahead.At + step/2}
	if step%2 == 1 {
		at, m := readNumber(s[n:])
		// No step is none to another row: in the same row Write tells how much further on a place is.
		if m == 0 || step/2 == 0 {
			return api.Place{}, 0
		}
		p = api.Place{Row: ahead.Row + step/2, At: at}
		n += m
	}
	if !follows(ahead, p) {
		return api.Place{}, 0
	}
	return p, n
}
