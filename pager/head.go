package pager

import "concordance/api"

// writeHead is the head's page: a bit of each page that is in use, a bit of each that lies in its upper place, and the roots, two bytes a number. A page of noughts, as an empty disk has it, says: nothing.
func writeHead(used, upper [api.MaxPages]bool, roots [api.Roots]root) string {
	b := make([]byte, api.PageSize)
	writeFlags(b[:flags], used)
	writeFlags(b[flags:], upper)
	for i, r := range roots {
		writeNumber(b[rootAt(i):], r.page)
		writeNumber(b[rootAt(i)+2:], r.note)
	}
	return string(b)
}

// readHead is what a head's page says.
func readHead(s string) (used, upper [api.MaxPages]bool, roots [api.Roots]root) {
	used = readFlags(s[:flags])
	// The head's own page is nobody's, whatever a disk of another origin says.
	used[0] = false
	upper = readFlags(s[flags:])
	for i := range roots {
		roots[i] = root{readNumber(s[rootAt(i):]), readNumber(s[rootAt(i)+2:])}
	}
	return used, upper, roots
}

// writeTurn is the turn's page: two of them differ in their first byte alone.
func writeTurn(upper bool) string {
	b := make([]byte, api.PageSize)
	if upper {
		b[0] = 1
	}
	return string(b)
}

// rootAt is where a root stands in the head's page.
func rootAt(i int) int {
	return 2*flags + 4*i
}

func writeFlags(b []byte, l [api.MaxPages]bool) {
	for k, on := range l {
		if on {
			b[k/8] |= 1 << (k % 8)
		}
	}
}

func readFlags(s string) (l [api.MaxPages]bool) {
	for k := range l {
		l[k] = s[k/8]>>(k%8)&1 == 1
	}
	return l
}

func writeNumber(b []byte, n int) {
	b[0], b[1] = byte(n>>8), byte(n)
}

func readNumber(s string) int {
	return int(s[0])<<8 | int(s[1])
}
