package word

import (
	"slices"
	"strings"
	"testing"
	"unsafe"

	"concordance/api"
)

// die: numbers that look drawn, the same each time.
type die uint64

func (d *die) below(n int) int {
	*d = *d*6364136223846793005 + 1442695040888963407
	return int(uint64(*d>>33) % uint64(n))
}

// TestSmall: 5.1: A to Z, and no other byte.
func TestSmall(t *testing.T) {
	for _, c := range []struct{ s, want string }{
		{"", ""},
		{"a", "a"},
		{"A", "a"},
		{"Jumping-FOXES!", "jumping-foxes!"},
		{"ABCDEFGHIJKLMNOPQRSTUVWXYZ", "abcdefghijklmnopqrstuvwxyz"},
		{"abcdefghijklmnopqrstuvwxyz", "abcdefghijklmnopqrstuvwxyz"},
		{"@[`{ 09", "@[`{ 09"},
		{"\x00\x01\x7f", "\x00\x01\x7f"},
		{"\xc3\x89A", "\xc3\x89a"},                 // a great letter with a mark: its bytes are not A to Z
		{"\xe2\x84\xaaK", "\xe2\x84\xaak"},         // a sign whose small letter is k
		{"\xff\xc1\xdaZ\x80", "\xff\xc1\xdaz\x80"}, // no text of letters at all
		{strings.Repeat("Zz", 1<<19), strings.Repeat("zz", 1<<19)},
	} {
		if got := Small(c.s); got != c.want {
			t.Errorf("Small(%.60q) = %.60q, want %.60q", c.s, got, c.want)
		}
	}
}

// TestSmallOfEachByte: 5.1, P5: each byte alone, and between others.
func TestSmallOfEachByte(t *testing.T) {
	const great, small = "ABCDEFGHIJKLMNOPQRSTUVWXYZ", "abcdefghijklmnopqrstuvwxyz"
	for c := range 256 {
		want := []byte{byte(c)}
		if i := strings.IndexByte(great, byte(c)); i >= 0 {
			want[0] = small[i]
		}
		s := string([]byte{byte(c)})
		if got := Small(s); got != string(want) {
			t.Errorf("Small(%q) = %q, want %q", s, got, want)
		}
		if got := Small("Q" + s + "q"); got != "q"+string(want)+"q" {
			t.Errorf("Small(%q) = %q, want %q", "Q"+s+"q", got, "q"+string(want)+"q")
		}
	}
}

// stems are words, and their Stems: 5.1.
func stems() []struct{ s, want string } {
	return []struct{ s, want string }{
		{"", ""},
		{"a", "a"},
		{"fox", "fox"},
		{"jump", "jump"},

		{"classes", "class"},
		{"grasses", "grass"},
		{"princesses", "princess"},
		{"passes", "passes"}, // two bytes stand ahead of sses: s alone does not go, either
		{"asses", "asses"},
		{"sses", "sses"},
		{"asssses", "assss"},

		{"parties", "party"},
		{"berries", "berry"},
		{"abcies", "abcy"},
		{"flies", "flies"}, // nor es, nor s
		{"dies", "dies"},
		{"ies", "ies"},

		{"class", "class"},
		{"pass", "pass"},
		{"ass", "ass"},
		{"ss", "ss"},
		{"abcsss", "abcsss"},
		{"princess", "princess"},

		{"jumping", "jump"},
		{"seeing", "see"},
		{"doing", "doing"},
		{"bring", "bring"},
		{"king", "king"},
		{"ing", "ing"},
		{"ng", "ng"},

		{"jumped", "jump"},
		{"freed", "fre"},
		{"need", "need"},
		{"red", "red"},
		{"ed", "ed"},

		{"foxes", "foxe"},
		{"houses", "house"},
		{"does", "does"}, // nor s
		{"yes", "yes"},
		{"es", "es"},

		{"cats", "cat"},
		{"cars", "car"},
		{"gas", "gas"},
		{"is", "is"},
		{"s", "s"},

		{"jumpings", "jumping"}, // one end goes, and no second one
		{"buildinged", "building"},
		{"classeses", "classese"},
		{"ingcat", "ingcat"}, // what stands elsewhere is no end
		{"edited", "edit"},
		{"singed", "sing"},

		{"CATS", "CATS"}, // great letters are no ends
		{"JUMPing", "JUMP"},
		{"catS", "catS"},
		{"jumpIng", "jumpIng"},
		{"parTies", "parTy"},

		{"a bs", "a b"}, // any bytes may stand ahead
		{"...ed", "..."},
		{"123s", "123"},
		{"12s", "12s"},
		{"\x00\x00\x00s", "\x00\x00\x00"},
		{"\xc3\xa9as", "\xc3\xa9a"}, // bytes are counted, not letters
		{"\xc3\xa9s", "\xc3\xa9s"},
		{"\xe2\x82\xacing", "\xe2\x82\xac"},
		{"\xff\xfe\xfdies", "\xff\xfe\xfdy"},
		{"\xff\xfeies", "\xff\xfeies"},
		{"cats\xff", "cats\xff"},
		{strings.Repeat("x", 1<<20) + "sses", strings.Repeat("x", 1<<20) + "ss"},
		{strings.Repeat("s", 1<<20), strings.Repeat("s", 1<<20)},
	}
}

// TestStem: 5.1.
func TestStem(t *testing.T) {
	for _, c := range stems() {
		if got := Stem(c.s); got != c.want {
			t.Errorf("Stem(%.60q) = %.60q, want %.60q", c.s, got, c.want)
		}
	}
}

// plainStem is Stem by its promise alone: which end a word has, asked one by one.
func plainStem(s string) string {
	has := func(end string) bool { return len(s) >= len(end) && s[len(s)-len(end):] == end }
	done := func(n int, instead string) string {
		if len(s)-n < 3 {
			return s
		}
		return s[:len(s)-n] + instead
	}
	switch {
	case has("sses"):
		return done(4, "ss")
	case has("ies"):
		return done(3, "y")
	case has("ss"):
		return s
	case has("ing"):
		return done(3, "")
	case has("ed"):
		return done(2, "")
	case has("es"):
		return done(2, "e")
	case has("s"):
		return done(1, "")
	}
	return s
}

// TestStemOfAllShortWords: 5.1: all words of up to seven of the letters that ends are made of.
func TestStemOfAllShortWords(t *testing.T) {
	const letters, most = "seidngx", 7
	var look func(s string)
	look = func(s string) {
		if got, want := Stem(s), plainStem(s); got != want {
			t.Fatalf("Stem(%q) = %q, want %q", s, got, want)
		}
		for i := range len(letters) {
			if len(s) < most {
				look(letters[i:i+1] + s)
			}
		}
	}
	look("")
}

// TestSplit: 5.1.
func TestSplit(t *testing.T) {
	for _, c := range []struct {
		s    string
		want []string
	}{
		{"", nil},
		{" ", nil},
		{" .,-!\t\n", nil},
		{"\x00\x7f", nil},
		{"a", []string{"a"}},
		{"Jumping-foxes!", []string{"jump", "foxe"}}, // example 5
		{"the cat, the CATS", []string{"the", "cat", "the", "cat"}},
		{"  cat  dog  ", []string{"cat", "dog"}},
		{"cat", []string{"cat"}},
		{"c3 3c 007", []string{"c3", "3c", "007"}},
		{"it's", []string{"it", "s"}},
		{"snake_case", []string{"snake", "case"}},
		{"CLASSES Parties JUMPED", []string{"class", "party", "jump"}},
		{"passes flies does is", []string{"passes", "flies", "does", "is"}},
		{"AZ@az[09`Za{9/z:A", []string{"az", "az", "09", "za", "9", "z", "a"}}, // each range's neighbours
		{"a\x7fb\x80c", []string{"a", "b\x80c"}},
		{"caf\xc3\xa9s \xc3\x89", []string{"caf\xc3\xa9", "\xc3\x89"}},
		{"\xff", []string{"\xff"}},
		{"\xff\x00\x80", []string{"\xff", "\x80"}},
		{"\xe2\x80\x94", []string{"\xe2\x80\x94"}}, // a dash, but its bytes are above 127
		{"a\xc2\xa0b", []string{"a\xc2\xa0b"}},     // a blank, but its bytes are above 127

		{"abcdefghijkl", []string{"abcdefghijkl"}},
		{"abcdefghijklm", []string{"abcdefghijkl"}},
		{"abcdefghijkls", []string{"abcdefghijkl"}}, // cut, and then no end stands there
		{"abcdefghijks", []string{"abcdefghijk"}},
		{"abcdefghijksx", []string{"abcdefghijk"}}, // cut, and then one does
		{"abcdefghiing xyz", []string{"abcdefghi", "xyz"}},
		{"abcdefghiingly", []string{"abcdefghi"}},
		{"abcdefghsseses", []string{"abcdefghss"}},
		{"longerthantwelveletters", []string{"longerthantw"}}, // what is cut is no word of its own
		{"abcdefghijklm nopq", []string{"abcdefghijkl", "nopq"}},
		{"abcdefghijk\xc3\xa9", []string{"abcdefghijk\xc3"}}, // bytes are cut, not letters
		{strings.Repeat("A", 1<<20), []string{"aaaaaaaaaaaa"}},
		{strings.Repeat(" ", 1<<20) + "z", []string{"z"}},
	} {
		if got := Split(c.s); !slices.Equal(got, c.want) {
			t.Errorf("Split(%.60q) = %q, want %q", c.s, got, c.want)
		}
	}
}

// TestWordsAreAsLongAsMaxWord: 5.1: runs of up to twice MaxWord bytes, of letters that no end has.
func TestWordsAreAsLongAsMaxWord(t *testing.T) {
	for n := 1; n <= 2*api.MaxWord; n++ {
		run := strings.Repeat("Q", n)
		want := []string{strings.Repeat("q", min(n, 12))}
		if got := Split(run); !slices.Equal(got, want) {
			t.Errorf("Split(%q) = %q, want %q", run, got, want)
		}
	}
}

// wordBytes are all bytes that words are made of.
func wordBytes() string {
	b := []byte("ABCDEFGHIJKLMNOPQRSTUVWXYZabcdefghijklmnopqrstuvwxyz0123456789")
	for c := 128; c < 256; c++ {
		b = append(b, byte(c))
	}
	return string(b)
}

// TestWhichBytesAreWords: 5.1: each byte between two others.
func TestWhichBytesAreWords(t *testing.T) {
	for c := range 256 {
		s := string([]byte{'q', byte(c), 'q'})
		want := 2
		if strings.IndexByte(wordBytes(), byte(c)) >= 0 {
			want = 1
		}
		if got := Split(s); len(got) != want {
			t.Errorf("Split(%q) = %q, want %d words", s, got, want)
		}
	}
}

// plainSplit is Split by its promise alone, byte by byte.
func plainSplit(s string) []string {
	var l []string
	run := ""
	for i := range len(s) + 1 {
		if i < len(s) && strings.IndexByte(wordBytes(), s[i]) >= 0 {
			run += s[i : i+1]
			continue
		}
		if run != "" {
			l = append(l, plainStem(Small(run)[:min(12, len(run))]))
		}
		run = ""
	}
	return l
}

// TestSplitOfDrawnTexts: 5.1, P1: texts of words, marks and any bytes.
func TestSplitOfDrawnTexts(t *testing.T) {
	parts := []string{"a", "S", "s", "ss", "IES", "ies", "ing", "ed", "eS", "cat", "Jump", "42", " ", " ", "-", "'", "\x7f", "\x80", "\xc3\xa9", "longer", "twelveletter"}
	d := die(1)
	for range 20_000 {
		s := ""
		for range d.below(12) {
			if d.below(8) == 0 {
				s += string([]byte{byte(d.below(256))})
			} else {
				s += parts[d.below(len(parts))]
			}
		}
		if got, want := Split(s), plainSplit(s); !slices.Equal(got, want) {
			t.Fatalf("Split(%q) = %q, want %q", s, got, want)
		}
	}
}

// TestWordsStandAlone: 5.1: the words of two texts with a mark between them are those of the one, and those of the other one.
func TestWordsStandAlone(t *testing.T) {
	d := die(2)
	text := func() string {
		b := make([]byte, d.below(30))
		for i := range b {
			b[i] = "aSes ingD-\xff"[d.below(11)]
		}
		return string(b)
	}
	for range 10_000 {
		a, b := text(), text()
		want := append(Split(a), Split(b)...)
		if got := Split(a + "." + b); !slices.Equal(got, want) {
			t.Fatalf("Split(%q) = %q, want %q", a+"."+b, got, want)
		}
	}
}

// drawn is a text in memory that may be written into.
func drawn(s string) ([]byte, string) {
	b := []byte(s)
	return b, unsafe.String(&b[0], len(b))
}

// scrawl writes over a text's memory.
func scrawl(s string) {
	for i := range len(s) {
		unsafe.Slice(unsafe.StringData(s), len(s))[i] = '!'
	}
}

// TestAnswersAreFresh: P4: no answer shares memory with what was handed in, also where nothing of it is changed, nor with another one.
func TestAnswersAreFresh(t *testing.T) {
	for _, s := range []string{"cats", "jumping", "fox", "classes", "princess", "yes", "JUMPING"} {
		want := [...]string{Stem(s), Small(s)}
		b, text := drawn(s)
		got := [...]string{Stem(text), Small(text)}
		for i := range b {
			b[i] = '!'
		}
		if got != want {
			t.Errorf("Stem and Small of %q share its memory: %q, want %q", s, got, want)
		}
		scrawl(got[0])
		if again := [...]string{Stem(s), Small(s)}; again != want || got[1] != want[1] {
			t.Errorf("Stem and Small of %q = %q, then %q, want %q", s, got, again, want)
		}
	}
	b, text := drawn("foxy Jumping foxes and more")
	want := []string{"foxy", "jump", "foxe", "and", "more"}
	l := Split(text)
	for i := range b {
		b[i] = '!'
	}
	if !slices.Equal(l, want) {
		t.Errorf("Split shares the text's memory: %q, want %q", l, want)
	}
	scrawl(l[1])
	l[2] = "other"
	if l[0] != "foxy" || l[3] != "and" || l[4] != "more" {
		t.Errorf("two words share memory: %q", l)
	}
	if again := Split("foxy Jumping foxes and more"); !slices.Equal(again, want) {
		t.Errorf("Split = %q, want %q", again, want)
	}
}
