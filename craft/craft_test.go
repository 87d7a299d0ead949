package craft

import (
	"math"
	"strconv"
	"strings"
	"sync"
	"testing"
	"unsafe"

	"bastion/api"
	"bastion/book"
)

// part is what a term is made of; atoms and hashes have no key.
type part struct {
	kind byte
	key  int
	s    string
}

// keyRows are keys with their bytes: the least and the greatest of each length.
var keyRows = []struct {
	key int
	s   string
}{
	{0, "\x00"}, {1, "\x01\x01"}, {255, "\x01\xff"}, {256, "\x02\x01\x00"}, {300, "\x02\x01\x2c"},
	{65535, "\x02\xff\xff"}, {65536, "\x03\x01\x00\x00"}, {16777215, "\x03\xff\xff\xff"},
	{16777216, "\x04\x01\x00\x00\x00"}, {api.MaxNum, "\x04\x3f\xff\xff\xff"},
}

// noKeys are numbers that are no keys.
var noKeys = []int{-1, -255, -256, math.MinInt32, math.MinInt, api.MaxNum + 1, math.MaxInt32, 1 << 32, 1<<32 + 1, math.MaxInt}

// noNames are numbers that are no names in any book.
var noNames = []int{-1, -2, math.MinInt32, math.MinInt, api.MaxTerms, api.MaxNum, 1 << 32, math.MaxInt}

// start gives a new book of at most so many terms.
func start(t *testing.T, most int) *book.Book {
	t.Helper()
	b, e := book.New(most)
	if e != api.OK {
		t.Fatalf("New(%d): %d", most, e)
	}
	return b
}

// tell is a part for a message.
func (p part) tell() string {
	s := strconv.Quote(p.s)
	if len(p.s) > 20 {
		s = strconv.Itoa(len(p.s)) + " bytes"
	}
	return string([]byte{p.kind}) + " of " + strconv.Itoa(p.key) + " and " + s
}

// craft names the term of a part.
func (p part) craft(b *book.Book) (int, api.Errno) {
	switch p.kind {
	case 'A':
		return Atom(b, p.s)
	case 'H':
		return Hash(b, p.s)
	case 'M':
		return Mac(b, p.key, p.s)
	}
	return Seal(b, p.key, p.s)
}

func checkCraft(t *testing.T, b *book.Book, p part, name int, e api.Errno) {
	t.Helper()
	if got, f := p.craft(b); got != name || f != e {
		t.Errorf("%s: %d, %d, want %d, %d", p.tell(), got, f, name, e)
	}
}

func checkOpen(t *testing.T, b *book.Book, key, tag int, s string, e api.Errno) {
	t.Helper()
	if got, f := Open(b, key, tag); got != s || f != e {
		t.Errorf("Open(%d, %d): %d bytes, %d, want %d bytes, %d", key, tag, len(got), f, len(s), e)
	}
}

// checkIs tells that a hash or a tag of a part is that name, or that it isn't.
func checkIs(t *testing.T, b *book.Book, p part, tag int, want bool) {
	t.Helper()
	got := false
	if p.kind == 'H' {
		got = IsHash(b, p.s, tag)
	} else {
		got = IsMac(b, p.key, p.s, tag)
	}
	if got != want {
		t.Errorf("Is %s: %d: %v, want %v", p.tell(), tag, got, want)
	}
}

func checkLen(t *testing.T, b *book.Book, n int) {
	t.Helper()
	if got := b.Len(); got != n {
		t.Errorf("Len: %d, want %d", got, n)
	}
}

// checkTerm tells that a name is of just these bytes.
func checkTerm(t *testing.T, b *book.Book, name int, term string) {
	t.Helper()
	if got, e := b.Term(name); got != term || e != api.OK {
		t.Errorf("Term(%d): %d bytes, %d, want %d bytes", name, len(got), e, len(term))
	}
}

// checkAll asks a book that was made of just these parts, in their order, each of them by each of its names.
func checkAll(t *testing.T, b *book.Book, parts []part) {
	t.Helper()
	checkLen(t, b, len(parts))
	for tag, made := range parts {
		checkCraft(t, b, made, tag, api.OK)
		for own, asked := range parts {
			checkIs(t, b, part{'H', 0, asked.s}, tag, made == part{'H', 0, asked.s})
			checkIs(t, b, part{'M', asked.key, asked.s}, tag, made == part{'M', asked.key, asked.s})
			if made.kind == 'S' && made.key == asked.key {
				checkOpen(t, b, asked.key, tag, made.s, api.OK)
			} else {
				checkOpen(t, b, asked.key, tag, "", api.ErrCraftOpen)
			}
			if asked.kind == 'H' || asked.kind == 'M' {
				checkIs(t, b, asked, own, true)
			}
		}
	}
	for _, tag := range append([]int{len(parts), len(parts) + 1}, noNames...) {
		for _, p := range parts {
			checkIs(t, b, part{'H', 0, p.s}, tag, false)
			checkIs(t, b, part{'M', p.key, p.s}, tag, false)
			checkOpen(t, b, p.key, tag, "", api.ErrCraftOpen)
		}
	}
	checkLen(t, b, len(parts))
}

// P3.1: each kind's bytes, whatever the text's bytes are; made again it is the same.
func TestTerms(t *testing.T) {
	b := start(t, 1000)
	n := 0
	for _, s := range []string{"", "x", "xy", "\x00", "\xff\xfe", "h\xc3\xa9", "A", "S\x01\x01x"} {
		rows := []struct {
			p    part
			term string
		}{{part{'A', 0, s}, "A" + s}, {part{'H', 0, s}, "H" + s}}
		for _, k := range keyRows {
			rows = append(rows, struct {
				p    part
				term string
			}{part{'M', k.key, s}, "M" + k.s + s}, struct {
				p    part
				term string
			}{part{'S', k.key, s}, "S" + k.s + s})
		}
		for i, r := range rows {
			checkCraft(t, b, r.p, n+i, api.OK)
			checkTerm(t, b, n+i, r.term)
			checkLen(t, b, n+i+1)
		}
		for i, r := range rows {
			checkCraft(t, b, r.p, n+i, api.OK)
		}
		n += len(rows)
		checkLen(t, b, n)
	}
}

// P3.1: a term that the book has already, by its bytes, keeps its name.
func TestNamed(t *testing.T) {
	b := start(t, 10)
	for _, term := range []string{"Sx", "S\x01\x07x", "M\x01\x07x", "Hx", "Ax"} {
		if _, e := b.Name(term); e != api.OK {
			t.Fatalf("Name(%q): %d", term, e)
		}
	}
	checkCraft(t, b, part{'A', 0, "x"}, 4, api.OK)
	checkCraft(t, b, part{'H', 0, "x"}, 3, api.OK)
	checkCraft(t, b, part{'M', 7, "x"}, 2, api.OK)
	checkCraft(t, b, part{'S', 7, "x"}, 1, api.OK)
	checkLen(t, b, 5)
	checkIs(t, b, part{'H', 0, "x"}, 3, true)
	checkIs(t, b, part{'M', 7, "x"}, 2, true)
	checkOpen(t, b, 7, 1, "x", api.OK)
}

// P3.1, P3.2, P3.3: every made name against every kind, key and text.
func TestEach(t *testing.T) {
	b := start(t, 1000)
	var parts []part
	for _, s := range []string{"x", "", "y", "xy"} {
		parts = append(parts, part{'A', 0, s}, part{'H', 0, s})
		for _, key := range []int{300, 0, 301, api.MaxNum} {
			parts = append(parts, part{'S', key, s}, part{'M', key, s})
		}
	}
	for name, p := range parts {
		checkCraft(t, b, p, name, api.OK)
	}
	checkAll(t, b, parts)
}

// P3.1, P3.2: what is asked before it is made is not, nor named by that; behind it, it is.
func TestAsked(t *testing.T) {
	b := start(t, 10)
	for range 2 {
		for tag := -1; tag < 4; tag++ {
			for _, s := range []string{"", "x"} {
				checkIs(t, b, part{'H', 0, s}, tag, false)
				checkIs(t, b, part{'M', 7, s}, tag, false)
			}
			checkOpen(t, b, 7, tag, "", api.ErrCraftOpen)
		}
		checkLen(t, b, 0)
	}
	checkCraft(t, b, part{'S', 7, "x"}, 0, api.OK)
	checkIs(t, b, part{'H', 0, "x"}, 1, false)
	checkIs(t, b, part{'M', 7, "x"}, 2, false)
	checkCraft(t, b, part{'H', 0, "x"}, 1, api.OK)
	checkIs(t, b, part{'M', 7, "x"}, 2, false)
	checkCraft(t, b, part{'M', 7, "x"}, 2, api.OK)
	checkAll(t, b, []part{{'S', 7, "x"}, {'H', 0, "x"}, {'M', 7, "x"}})
}

// P3.1, P3.2: an empty text is a text in each kind.
func TestEmpty(t *testing.T) {
	parts := []part{{'A', 0, ""}, {'H', 0, ""}, {'M', 0, ""}, {'S', 0, ""}, {'M', api.MaxNum, ""}, {'S', api.MaxNum, ""}}
	b := start(t, len(parts))
	for name, p := range parts {
		checkCraft(t, b, p, name, api.OK)
	}
	for name, term := range []string{"A", "H", "M\x00", "S\x00", "M\x04\x3f\xff\xff\xff", "S\x04\x3f\xff\xff\xff"} {
		checkTerm(t, b, name, term)
	}
	checkAll(t, b, parts)
}

// P3.1, P3.2: the keys from 0 to MaxNum are keys, and each is one of its own.
func TestKeys(t *testing.T) {
	b := start(t, 100)
	var parts []part
	for _, k := range keyRows {
		parts = append(parts, part{'M', k.key, "x"}, part{'S', k.key, "x"})
	}
	for name, p := range parts {
		checkCraft(t, b, p, name, api.OK)
	}
	checkAll(t, b, parts)
}

// P3.1, P3.2: what is no key makes, asks and opens nothing.
func TestNoKeys(t *testing.T) {
	b := start(t, 100)
	checkCraft(t, b, part{'M', 0, "x"}, 0, api.OK)
	checkCraft(t, b, part{'S', 0, "x"}, 1, api.OK)
	checkCraft(t, b, part{'M', api.MaxNum, "x"}, 2, api.OK)
	checkCraft(t, b, part{'S', api.MaxNum, "x"}, 3, api.OK)
	// The terms that a head without its key would make.
	for _, term := range []string{"Mx", "Sx", "M", "S", "x"} {
		if _, e := b.Name(term); e != api.OK {
			t.Fatalf("Name(%q): %d", term, e)
		}
	}
	for _, key := range noKeys {
		for _, s := range []string{"x", "", "y", strings.Repeat("x", api.MaxTerm+1)} {
			checkCraft(t, b, part{'M', key, s}, 0, api.ErrCraftForm)
			checkCraft(t, b, part{'S', key, s}, 0, api.ErrCraftForm)
			for tag := -1; tag < 10; tag++ {
				checkIs(t, b, part{'M', key, s}, tag, false)
			}
		}
		for tag := -1; tag < 10; tag++ {
			checkOpen(t, b, key, tag, "", api.ErrCraftOpen)
		}
		checkLen(t, b, 9)
	}
}

// P3.1, P3.2: a term has at most MaxTerm bytes, its kind and key among them.
func TestLong(t *testing.T) {
	long := strings.Repeat("x", api.MaxTerm)
	b := start(t, 100)
	parts := []part{{'A', 0, long[1:]}, {'H', 0, long[1:]}}
	for _, k := range keyRows {
		rest := long[1+len(k.s):]
		parts = append(parts, part{'M', k.key, rest}, part{'S', k.key, rest})
	}
	for name, p := range parts {
		more := part{p.kind, p.key, p.s + "x"}
		checkCraft(t, b, more, 0, api.ErrCraftForm)
		checkLen(t, b, name)
		checkCraft(t, b, p, name, api.OK)
		if term, e := b.Term(name); len(term) != api.MaxTerm || e != api.OK {
			t.Errorf("%s: %d bytes, %d", p.tell(), len(term), e)
		}
		checkCraft(t, b, more, 0, api.ErrCraftForm)
		checkIs(t, b, part{'H', 0, more.s}, name, false)
		checkIs(t, b, part{'M', more.key, more.s}, name, false)
	}
	checkAll(t, b, parts)
}

// P3.1: texts that are far too long are refused, and are no term's.
func TestTooLong(t *testing.T) {
	b := start(t, 10)
	for _, n := range []int{api.MaxTerm, api.MaxTerm + 1, api.MaxText, 1 << 24} {
		s := strings.Repeat("x", n)
		for _, kind := range []byte("AHMS") {
			checkCraft(t, b, part{kind, 1, s}, 0, api.ErrCraftForm)
		}
		for tag := -1; tag < 2; tag++ {
			checkIs(t, b, part{'H', 0, s}, tag, false)
			checkIs(t, b, part{'M', 1, s}, tag, false)
		}
		checkLen(t, b, 0)
	}
}

// P3.1, P3.2: a book that is full names what it holds, and nothing more; it is asked and opened as before.
func TestFull(t *testing.T) {
	parts := []part{{'S', 5, "s"}, {'M', 5, "m"}, {'H', 0, "h"}, {'A', 0, "a"}}
	b := start(t, len(parts))
	for name, p := range parts {
		checkCraft(t, b, p, name, api.OK)
	}
	for range 2 {
		checkAll(t, b, parts)
		for _, kind := range []byte("AHMS") {
			for _, s := range []string{"", "x", "S", strings.Repeat("x", api.MaxTerm)} {
				checkCraft(t, b, part{kind, 5, s}, 0, api.ErrCraftForm)
			}
		}
		checkIs(t, b, part{'H', 0, "x"}, 0, false)
		checkIs(t, b, part{'M', 5, "x"}, 0, false)
	}
	one := start(t, 1)
	checkCraft(t, one, part{'A', 0, "a"}, 0, api.OK)
	checkCraft(t, one, part{'H', 0, "a"}, 0, api.ErrCraftForm)
	checkAll(t, one, []part{{'A', 0, "a"}})
}

// P3.3: parts whose bytes run into each other are unlike.
func TestUnlike(t *testing.T) {
	parts := []part{
		// The same text, of each kind.
		{'A', 0, "x"}, {'H', 0, "x"}, {'M', 0, "x"}, {'S', 0, "x"},
		// The bytes of a key within the text.
		{'A', 0, "\x00x"}, {'H', 0, "\x00x"}, {'M', 0, "\x00x"}, {'S', 0, "\x00x"},
		{'H', 0, "\x01\x01x"}, {'M', 1, "x"}, {'S', 1, "x"}, {'M', 0, "\x01\x01x"}, {'S', 0, "\x01\x01x"},
		// A key's last byte, or the text's first.
		{'S', 1, "\x02"}, {'S', 0x102, ""}, {'S', 0x102, "\x03"}, {'S', 0x10203, ""},
		{'M', 1, "\x02"}, {'M', 0x102, ""}, {'M', 0x102, "\x03"}, {'M', 0x10203, ""},
		// Digits that run into each other.
		{'S', 1, "23"}, {'S', 12, "3"}, {'S', 123, ""}, {'M', 1, "23"}, {'M', 12, "3"}, {'M', 123, ""},
		// A key and a text against those the other way round.
		{'S', 'x', "y"}, {'S', 'y', "x"}, {'M', 'x', "y"}, {'M', 'y', "x"},
		// A kind's letter within the text.
		{'A', 0, "Hx"}, {'H', 0, "Ax"}, {'A', 0, "S\x00x"}, {'H', 0, "M\x00x"}, {'S', 0, "S\x00x"}, {'M', 0, "M\x00x"},
		// Zeros at the beginning and at the end.
		{'S', 256, ""}, {'S', 1, "\x00"}, {'S', 0, ""}, {'S', 0, "\x00"}, {'S', 0, "\x00\x00"}, {'M', 0, "\x00"}, {'M', 0, "\x00\x00"},
	}
	b := start(t, len(parts))
	for name, p := range parts {
		checkCraft(t, b, p, name, api.OK)
	}
	checkAll(t, b, parts)
}

// eachText calls do with every text of at most n of the letters.
func eachText(letters string, n int, so string, do func(string)) {
	do(so)
	if n == 0 {
		return
	}
	for _, c := range []byte(letters) {
		eachText(letters, n-1, so+string([]byte{c}), do)
	}
}

// P3.2, P3.3: all short texts over the bytes that matter, of each kind, with keys of each length: no two have one name, and each seal opens by its own key alone.
func TestShort(t *testing.T) {
	b := start(t, api.MaxTerms)
	keys := []int{0, 1, 0x100, 0x101, 0x10001, 0x1000001}
	var parts []part
	eachText("\x00\x01\x02AHMS", 3, "", func(s string) {
		parts = append(parts, part{'A', 0, s}, part{'H', 0, s})
		for _, key := range keys {
			parts = append(parts, part{'M', key, s}, part{'S', key, s})
		}
	})
	for name, p := range parts {
		checkCraft(t, b, p, name, api.OK)
	}
	for name, p := range parts {
		checkCraft(t, b, p, name, api.OK)
		checkIs(t, b, part{'H', 0, p.s}, name, p.kind == 'H')
		for _, key := range keys {
			checkIs(t, b, part{'M', key, p.s}, name, p == part{'M', key, p.s})
			if p.kind == 'S' && p.key == key {
				checkOpen(t, b, key, name, p.s, api.OK)
			} else {
				checkOpen(t, b, key, name, "", api.ErrCraftOpen)
			}
		}
	}
	checkLen(t, b, len(parts))
}

// P3.2: terms that begin as a seal's, and are none of any key, or of another one.
func TestOpenNoSeal(t *testing.T) {
	terms := []string{
		"S", "S\x01", "S\x02\x01", "S\x04\x3f\xff\xff", "Sx", "s\x00x", "\x00x", "x", "xS\x00x", "S\x05\x01\x01\x01\x01\x01",
		"S\x01\x00x", "S\x02\x00\x01x", "S\x02\x00\x00x", "S\x04\x00\x00\x00\x01x", "S\x04\x40\x00\x00\x00x", "S\x04\xff\xff\xff\xffx",
		"A\x00x", "H\x00x", "M\x00x", "M\x01\x01x",
	}
	b := start(t, len(terms))
	for _, term := range terms {
		if _, e := b.Name(term); e != api.OK {
			t.Fatalf("Name(%q): %d", term, e)
		}
	}
	for tag := range terms {
		for _, key := range []int{0, 1, 's', 'S', 'x', 255, 256, 65536, 16777216, api.MaxNum, api.MaxNum + 1, -1, 1<<32 - 1} {
			checkOpen(t, b, key, tag, "", api.ErrCraftOpen)
		}
	}
	checkLen(t, b, len(terms))
}

// P3.1, P3.2 with R3 and R6: a nil book, told ahead of what else is wrong.
func TestNil(t *testing.T) {
	for _, key := range append([]int{0, 1, api.MaxNum}, noKeys...) {
		for _, s := range []string{"", "x", strings.Repeat("x", api.MaxTerm+1)} {
			for _, kind := range []byte("AHMS") {
				checkCraft(t, nil, part{kind, key, s}, 0, api.ErrNil)
			}
			for _, tag := range append([]int{0, 1}, noNames...) {
				checkIs(t, nil, part{'H', 0, s}, tag, false)
				checkIs(t, nil, part{'M', key, s}, tag, false)
				checkOpen(t, nil, key, tag, "", api.ErrNil)
			}
		}
	}
}

// P3.1, P3.2 with R1: a book that layer 2 did not make holds no terms and names none.
func TestUnmade(t *testing.T) {
	b := new(book.Book)
	for _, kind := range []byte("AHMS") {
		checkCraft(t, b, part{kind, 1, "x"}, 0, api.ErrCraftForm)
	}
	checkIs(t, b, part{'H', 0, "x"}, 0, false)
	checkIs(t, b, part{'M', 1, "x"}, 0, false)
	checkOpen(t, b, 1, 0, "", api.ErrCraftOpen)
	checkLen(t, b, 0)
}

// P3.1, P3.2 with R5: one book's tags are not another's.
func TestBooks(t *testing.T) {
	one, two := start(t, 10), start(t, 10)
	checkCraft(t, one, part{'H', 0, "x"}, 0, api.OK)
	checkCraft(t, one, part{'S', 1, "x"}, 1, api.OK)
	checkIs(t, two, part{'H', 0, "x"}, 0, false)
	checkOpen(t, two, 1, 1, "", api.ErrCraftOpen)
	checkCraft(t, two, part{'S', 1, "y"}, 0, api.OK)
	checkAll(t, one, []part{{'H', 0, "x"}, {'S', 1, "x"}})
	checkAll(t, two, []part{{'S', 1, "y"}})
}

// P3.1 with R4: a text that was handed in is not kept.
func TestMemory(t *testing.T) {
	room := []byte("abc")
	s := unsafe.String(&room[0], len(room))
	b := start(t, 10)
	for name, kind := range []byte("AHMS") {
		checkCraft(t, b, part{kind, 1, s}, name, api.OK)
	}
	room[0] = 'x'
	for name, term := range []string{"Aabc", "Habc", "M\x01\x01abc", "S\x01\x01abc"} {
		checkTerm(t, b, name, term)
	}
	checkIs(t, b, part{'H', 0, "abc"}, 1, true)
	checkIs(t, b, part{'M', 1, "abc"}, 2, true)
	checkOpen(t, b, 1, 3, "abc", api.OK)
}

// P3.2 with R4: a text that was opened shares no memory with another answer (so neither with the book).
func TestOpenMemory(t *testing.T) {
	b := start(t, 10)
	tag, e := Seal(b, 1, "abc")
	one, f := Open(b, 1, tag)
	two, g := Open(b, 1, tag)
	if e != api.OK || f != api.OK || g != api.OK {
		t.Fatal(e, f, g)
	}
	if unsafe.StringData(one) == unsafe.StringData(two) {
		t.Error("Open: shared memory")
	}
}

// P3.1, P3.2 with R5: several goroutines at one time, each with a book.
func TestAtOneTime(t *testing.T) {
	var all sync.WaitGroup
	for k := range 8 {
		b := start(t, 4)
		all.Go(func() {
			parts := []part{{'S', k, "x"}, {'M', k, "x"}, {'H', 0, strconv.Itoa(k)}, {'A', 0, "x"}}
			for name, p := range parts {
				checkCraft(t, b, p, name, api.OK)
			}
			checkAll(t, b, parts)
		})
	}
	all.Wait()
}
