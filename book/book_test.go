package book

import (
	"math"
	"strconv"
	"strings"
	"sync"
	"testing"
	"unsafe"

	"bastion/api"
)

// start gives a new book of at most so many terms, with these named.
func start(t *testing.T, most int, terms ...string) *Book {
	t.Helper()
	b, e := New(most)
	if b == nil || e != api.OK {
		t.Fatalf("New(%d): %d", most, e)
	}
	for i, term := range terms {
		checkName(t, b, term, i, api.OK)
	}
	return b
}

// brief is a term for a message.
func brief(term string) string {
	if len(term) > 20 {
		return strconv.Itoa(len(term)) + " bytes"
	}
	return strconv.Quote(term)
}

func checkName(t *testing.T, b *Book, term string, name int, e api.Errno) {
	t.Helper()
	if got, f := b.Name(term); got != name || f != e {
		t.Errorf("Name(%s): %d, %d, want %d, %d", brief(term), got, f, name, e)
	}
}

func checkFind(t *testing.T, b *Book, term string, name int, is bool) {
	t.Helper()
	if got, has := b.Find(term); got != name || has != is {
		t.Errorf("Find(%s): %d, %v, want %d, %v", brief(term), got, has, name, is)
	}
}

func checkTerm(t *testing.T, b *Book, name int, term string, e api.Errno) {
	t.Helper()
	if got, f := b.Term(name); got != term || f != e {
		t.Errorf("Term(%d): %s, %d, want %s, %d", name, brief(got), f, brief(term), e)
	}
}

func checkLen(t *testing.T, b *Book, n int) {
	t.Helper()
	if got := b.Len(); got != n {
		t.Errorf("Len: %d, want %d", got, n)
	}
}

// checkRow tells that a book's terms are these, and no others.
func checkRow(t *testing.T, b *Book, terms ...string) {
	t.Helper()
	checkLen(t, b, len(terms))
	for name, term := range terms {
		checkTerm(t, b, name, term, api.OK)
		checkFind(t, b, term, name, true)
	}
	for _, name := range []int{-1, -2, math.MinInt, len(terms), len(terms) + 1, math.MaxInt} {
		checkTerm(t, b, name, "", api.ErrBookNone)
	}
}

// P2.1: how many terms there may be; a new book is empty.
func TestNew(t *testing.T) {
	for _, most := range []int{1, 2, 1000, api.MaxTerms - 1, api.MaxTerms} {
		b := start(t, most)
		checkRow(t, b)
		checkFind(t, b, "a", 0, false)
	}
}

// P2.1: what is no number of terms.
func TestNewForm(t *testing.T) {
	for _, most := range []int{0, -1, -api.MaxTerms, math.MinInt, api.MaxTerms + 1, math.MaxInt} {
		if b, e := New(most); b != nil || e != api.ErrBookForm {
			t.Errorf("New(%d): %v, %d, want ErrBookForm", most, b, e)
		}
	}
}

// P2.1: terms are named by how many there were, and keep their names.
func TestName(t *testing.T) {
	b := start(t, 10)
	checkName(t, b, "a", 0, api.OK)
	checkRow(t, b, "a")
	checkName(t, b, "b", 1, api.OK)
	checkName(t, b, "a", 0, api.OK)
	checkRow(t, b, "a", "b")
	checkName(t, b, "b", 1, api.OK)
	checkName(t, b, "ab", 2, api.OK)
	checkName(t, b, "a", 0, api.OK)
	checkName(t, b, "ba", 3, api.OK)
	checkRow(t, b, "a", "b", "ab", "ba")
}

// P2.1: any bytes are a term, and terms that differ in any way are two.
func TestNameBytes(t *testing.T) {
	terms := []string{
		"a", "A", "a ", " a", "aa", "a\x00", "\x00a", "\x00\x00",
		"\xff\xfe", "\xc3", "\xc3\xa9", "e\xcc\x81", "\xef\xbf\xbd", "\xc3\x28",
	}
	b := start(t, 1000, terms...)
	checkRow(t, b, terms...)
	for c := range 256 {
		if c == 'a' || c == 'A' || c == 0xc3 {
			continue
		}
		terms = append(terms, string([]byte{byte(c)}))
		checkName(t, b, terms[len(terms)-1], len(terms)-1, api.OK)
	}
	checkRow(t, b, terms...)
}

// P2.1: a term has 1 to MaxTerm bytes; what is refused names nothing.
func TestNameForm(t *testing.T) {
	long := strings.Repeat("x", api.MaxTerm)
	b := start(t, 5)
	for _, term := range []string{"", long + "x", long + long, strings.Repeat("y", 1<<20)} {
		checkName(t, b, term, 0, api.ErrBookForm)
		checkFind(t, b, term, 0, false)
	}
	checkRow(t, b)
	checkName(t, b, "x", 0, api.OK)
	checkName(t, b, long[1:], 1, api.OK)
	checkName(t, b, long, 2, api.OK)
	// These differ in one byte, the first or the last.
	checkName(t, b, "y"+long[1:], 3, api.OK)
	checkName(t, b, long[1:]+"y", 4, api.OK)
	checkName(t, b, long+"x", 0, api.ErrBookForm)
	checkRow(t, b, "x", long[1:], long, "y"+long[1:], long[1:]+"y")
}

// P2.1: the bytes are counted, not the runes.
func TestNameRunes(t *testing.T) {
	half := strings.Repeat("\xc3\xa9", api.MaxTerm/2)
	b := start(t, 5, half)
	checkName(t, b, half+"\xc3\xa9", 0, api.ErrBookForm)
	checkName(t, b, half+"e", 0, api.ErrBookForm)
	checkRow(t, b, half)
}

// P2.1: a book that is full tells what it holds, and names nothing more.
func TestNameFull(t *testing.T) {
	for _, terms := range [][]string{{"a"}, {"a", "b"}, {"c", "b", "a", "ca", "cb"}} {
		b := start(t, len(terms), terms...)
		for range 2 {
			for name, term := range terms {
				checkName(t, b, term, name, api.OK)
			}
			checkName(t, b, "z", 0, api.ErrBookFull)
			checkName(t, b, strings.Repeat("a", api.MaxTerm), 0, api.ErrBookFull)
			checkFind(t, b, "z", 0, false)
			checkRow(t, b, terms...)
		}
	}
}

// P2.1 with R6: the form is told ahead of what is full.
func TestNameFormFull(t *testing.T) {
	b := start(t, 1, "a")
	checkName(t, b, "", 0, api.ErrBookForm)
	checkName(t, b, strings.Repeat("a", api.MaxTerm+1), 0, api.ErrBookForm)
	checkRow(t, b, "a")
}

// P2.1: nothing is named by asking.
func TestFind(t *testing.T) {
	b := start(t, 2)
	for range 3 {
		checkFind(t, b, "a", 0, false)
		checkFind(t, b, "", 0, false)
	}
	checkRow(t, b)
	checkName(t, b, "b", 0, api.OK)
	checkFind(t, b, "a", 0, false)
	checkFind(t, b, "b", 0, true)
	checkRow(t, b, "b")
	checkName(t, b, "a", 1, api.OK)
	checkFind(t, b, "a", 1, true)
	checkFind(t, b, "", 0, false)
	checkRow(t, b, "b", "a")
}

// P2.1: names of no term, and those of the first and the last one.
func TestTerm(t *testing.T) {
	b := start(t, 9)
	checkTerm(t, b, 0, "", api.ErrBookNone)
	b = start(t, 9, "a", "b", "c")
	checkTerm(t, b, -1, "", api.ErrBookNone)
	checkTerm(t, b, 0, "a", api.OK)
	checkTerm(t, b, 2, "c", api.OK)
	checkTerm(t, b, 3, "", api.ErrBookNone)
	checkTerm(t, b, 8, "", api.ErrBookNone)
	checkTerm(t, b, 9, "", api.ErrBookNone)
	checkRow(t, b, "a", "b", "c")
}

// P2.1: as many terms as there may be, as long as they may be.
func TestMost(t *testing.T) {
	rest := strings.Repeat("t", api.MaxTerm-3)
	term := func(i int) string {
		return rest + string([]byte{byte(i >> 16), byte(i >> 8), byte(i)})
	}
	b := start(t, api.MaxTerms)
	for i := range api.MaxTerms {
		checkName(t, b, term(i), i, api.OK)
	}
	checkName(t, b, term(api.MaxTerms), 0, api.ErrBookFull)
	checkFind(t, b, term(api.MaxTerms), 0, false)
	checkLen(t, b, api.MaxTerms)
	for i := range api.MaxTerms {
		checkName(t, b, term(i), i, api.OK)
		checkFind(t, b, term(i), i, true)
		checkTerm(t, b, i, term(i), api.OK)
	}
	checkTerm(t, b, -1, "", api.ErrBookNone)
	checkTerm(t, b, api.MaxTerms, "", api.ErrBookNone)
}

// P2.1 with R3: a nil book.
func TestNil(t *testing.T) {
	var b *Book
	for _, term := range []string{"a", "", strings.Repeat("a", api.MaxTerm+1)} {
		checkName(t, b, term, 0, api.ErrNil)
		checkFind(t, b, term, 0, false)
	}
	for _, name := range []int{-1, 0, 1, math.MinInt, math.MaxInt} {
		checkTerm(t, b, name, "", api.ErrNil)
	}
	checkLen(t, b, 0)
}

// P2.1 with R1: a book that New did not make holds no terms.
func TestUnmade(t *testing.T) {
	b := new(Book)
	checkName(t, b, "a", 0, api.ErrBookFull)
	checkName(t, b, "", 0, api.ErrBookForm)
	checkFind(t, b, "a", 0, false)
	checkRow(t, b)
}

// P2.1 with R5: one book's names are not another's.
func TestBooks(t *testing.T) {
	one := start(t, 2, "a", "b")
	two := start(t, 2, "b")
	checkFind(t, two, "a", 0, false)
	checkName(t, one, "c", 0, api.ErrBookFull)
	checkName(t, two, "c", 1, api.OK)
	checkRow(t, one, "a", "b")
	checkRow(t, two, "b", "c")
}

// P2.1 with R4: a term that was handed in is not kept.
func TestNameMemory(t *testing.T) {
	room := []byte("abc")
	term := unsafe.String(&room[0], len(room))
	b := start(t, 2, term)
	room[0] = 'x'
	checkRow(t, b, "abc")
	checkFind(t, b, "xbc", 0, false)
	checkName(t, b, "xbc", 1, api.OK)
	checkRow(t, b, "abc", "xbc")
}

// P2.1 with R4: a term that is answered shares no memory with another answer, nor with the book.
func TestTermMemory(t *testing.T) {
	b := start(t, 1, "abc")
	one, _ := b.Term(0)
	two, _ := b.Term(0)
	held := unsafe.StringData(b.row[0])
	if a, c := unsafe.StringData(one), unsafe.StringData(two); a == c || a == held || c == held {
		t.Error("Term: shared memory")
	}
	for key := range b.index {
		if a := unsafe.StringData(key); a == unsafe.StringData(one) || a == unsafe.StringData(two) {
			t.Error("Term: shared memory")
		}
	}
}

// P2.1 with R5: several goroutines at one time, each with a book.
func TestAtOneTime(t *testing.T) {
	var all sync.WaitGroup
	for k := range 8 {
		all.Go(func() {
			b, e := New(100)
			if e != api.OK {
				t.Errorf("New: %d", e)
				return
			}
			for i := range 101 {
				e := api.OK
				name := i
				if i == 100 {
					name, e = 0, api.ErrBookFull
				}
				checkName(t, b, strconv.Itoa(k*i+i), name, e)
			}
		})
	}
	all.Wait()
}
