package many

import (
	"fmt"
	"math"
	"runtime"
	"slices"
	"strings"
	"sync"
	"testing"
	"time"
	"unsafe"

	"concordance/api"
	"concordance/desk"
)

// text is one of many: each says something of its own, and some take longer than others.
func text(i int) string {
	switch i % 7 {
	case 3:
		return strings.Repeat("\n", i)
	case 5:
		return strings.Repeat("x", api.MaxText+1-i%2)
	}
	s := fmt.Sprintf("create table t%d (a int, b text words)\n", i)
	for k := range 1 + i*13%29 {
		s += fmt.Sprintf("insert into t%d values (%d, 'cats %d'), (%d, 'dogs')\n", i, k, i, i)
	}
	s += fmt.Sprintf("select count(*), sum(a), min(b) from t%d\nlookup t%d b cat\ntables\nstate\n", i, i)
	return s + fmt.Sprintf("cut %d %d\ndrop table t%d\nstate\nopen\ntables\nselect %d from t%d limit 1", i%6, i, i, i, i)
}

// texts are so many.
func texts(n int) (l []string) {
	for i := range n {
		l = append(l, text(i))
	}
	return l
}

// sessions are the answers to texts, one behind the other.
func sessions(l []string) (answers []string) {
	for _, s := range l {
		answers = append(answers, desk.Session(s))
	}
	return answers
}

// answered fails, unless texts are answered so.
func answered(t *testing.T, l []string, workers int, want []string) {
	t.Helper()
	got, err := All(l, workers)
	if err != nil || !slices.Equal(got, want) {
		t.Errorf("All of %d texts, %d workers: %.300q, %v, want %.300q", len(l), workers, got, err, want)
	}
}

// refused fails, unless ErrLimit is told, and nothing else.
func refused(t *testing.T, l []string, workers int) {
	t.Helper()
	if got, err := All(l, workers); err != api.ErrLimit || len(got) != 0 {
		t.Errorf("All of %d texts, %d workers: %.300q, %v", len(l), workers, got, err)
	}
}

// TestDocument: 18.1, by example 17 of the document.
func TestDocument(t *testing.T) {
	answered(t, []string{"create table t (a int)\ninsert into t values (3)\nselect * from t", "", "select * from t"}, 2, []string{"done 0\ndone 1\nrows 3\n", "ok\n", "error 7\n"})
}

// TestHowMany: 18.1: of no text, of one, of as many as there may be, with each number of workers, fewer and more than texts: Session of each, in order.
func TestHowMany(t *testing.T) {
	all := texts(50)
	want := sessions(all)
	for _, n := range []int{0, 1, 2, 3, 15, 16, 17, 49, 50} {
		for workers := 1; workers <= 16; workers++ {
			answered(t, all[:n], workers, want[:n])
		}
	}
	answered(t, nil, 1, nil)
	answered(t, nil, 16, nil)
	answered(t, []string{}, 7, nil)
	answered(t, []string{""}, 16, []string{"ok\n"})
}

// TestLimits: 18.1: ErrLimit of more than 50 texts, and of workers that are not from 1 to 16; of both, too.
func TestLimits(t *testing.T) {
	for _, n := range []int{51, 52, 100, 1000, 1 << 16} {
		for _, workers := range []int{1, 2, 16, 0, 17, -1} {
			refused(t, make([]string, n), workers)
		}
	}
	for _, workers := range []int{0, -1, -16, 17, 18, 50, 1 << 32, 1<<32 + 1, math.MaxInt, math.MinInt} {
		for _, n := range []int{0, 1, 2, 50, 51} {
			refused(t, make([]string, n), workers)
		}
		refused(t, nil, workers)
	}
}

// TestSameTexts: 18.1: each text has a disk of its own: the same text is answered the same, as often as it stands there.
func TestSameTexts(t *testing.T) {
	one := text(4)
	want := slices.Repeat([]string{desk.Session(one)}, 50)
	for _, workers := range []int{1, 2, 16} {
		answered(t, slices.Repeat([]string{one}, 50), workers, want)
	}
}

// TestOrder: 18.1: in whatever order texts stand, their answers stand so.
func TestOrder(t *testing.T) {
	all := texts(50)
	want := sessions(all)
	for turn := range 50 {
		if turn%2 == 0 {
			slices.Reverse(all)
			slices.Reverse(want)
		}
		all, want = slices.Concat(all[7:], all[:7]), slices.Concat(want[7:], want[:7])
		answered(t, all, 1+turn%16, want)
	}
}

// TestAgain: 18.1, P4: as often as it is asked, it answers the same, also when several ask at once.
func TestAgain(t *testing.T) {
	all := texts(20)
	want := sessions(all)
	for i := range 60 {
		answered(t, all, 1+i%16, want)
	}
	var left sync.WaitGroup
	for i := range 12 {
		left.Go(func() { answered(t, all, 1+i, want) })
	}
	left.Wait()
}

// TestWorkersEnd: none of the workers is left when it has answered.
func TestWorkersEnd(t *testing.T) {
	ahead := runtime.NumGoroutine()
	for i := range 40 {
		if _, err := All(texts(i%5), 16); err != nil {
			t.Fatal(err)
		}
	}
	// One that has said that it is done may still be on its way out.
	for range 10_000 {
		if runtime.NumGoroutine() <= ahead {
			return
		}
		time.Sleep(time.Millisecond)
	}
	t.Errorf("%d goroutines, %d ahead", runtime.NumGoroutine(), ahead)
}

// scrawl writes over a text's memory. (A text of one byte lies where nobody may write: it stays.)
func scrawl(s string) {
	if len(s) < 2 {
		return
	}
	for i := range len(s) {
		unsafe.Slice(unsafe.StringData(s), len(s))[i] = '!'
	}
}

// TestNothingIsKept: P4: nothing that is handed in is changed, nor what stands behind its length; what comes out shares no memory with it, and is the caller's.
func TestNothingIsKept(t *testing.T) {
	want := sessions(texts(20))
	for _, workers := range []int{1, 3, 16} {
		handed := append(texts(20), "behind")[:20]
		got, err := All(handed, workers)
		if err != nil {
			t.Fatal(err)
		}
		if !slices.Equal(handed, texts(20)) || handed[:21][20] != "behind" {
			t.Error("what was handed in was written into")
		}
		again, _ := All(handed, workers)
		for i := range handed {
			handed[i] = "other"
		}
		if !slices.Equal(got, want) {
			t.Error("an answer shares memory with the list")
		}
		for i := range got {
			scrawl(got[i])
			got[i] = ""
		}
		clear(got[:cap(got)])
		if !slices.Equal(again, want) {
			t.Error("two answers share memory")
		}
	}
}

// TestTextsAreNotKept: P4: what comes out shares no memory with the texts themselves.
func TestTextsAreNotKept(t *testing.T) {
	want := sessions(texts(20))
	var handed []string
	for _, s := range texts(20) {
		handed = append(handed, string([]byte(s)))
	}
	got, err := All(handed, 4)
	for _, s := range handed {
		scrawl(s)
	}
	if err != nil || !slices.Equal(got, want) {
		t.Errorf("%.300q, %v", got, err)
	}
}

// TestRefusedNothingIsKept: P4: nor is anything changed with an error.
func TestRefusedNothingIsKept(t *testing.T) {
	handed := append(texts(51), "behind")[:51]
	refused(t, handed, 3)
	refused(t, handed[:50], 17)
	if !slices.Equal(handed, texts(51)) || handed[:52][51] != "behind" {
		t.Error("what was handed in was written into")
	}
}

// TestOneAnswerEach: P4: no two texts of one answer share memory.
func TestOneAnswerEach(t *testing.T) {
	for i := range 6 {
		got, err := All(slices.Repeat([]string{text(4)}, 6), 3)
		if err != nil {
			t.Fatal(err)
		}
		scrawl(got[i])
		for k, s := range got {
			if k != i && s != desk.Session(text(4)) {
				t.Errorf("%d shares memory with %d", k, i)
			}
		}
	}
}
