package sector

import (
	"math"
	"strconv"
	"strings"
	"testing"
	"unsafe"

	"bastion/api"
	"bastion/book"
	"bastion/craft"
)

// num gives a number's bytes, by layer 1's words.
func num(x int) string {
	out := ""
	for ; x > 0; x /= 256 {
		out = string([]byte{byte(x % 256)}) + out
	}
	return string([]byte{byte(len(out))}) + out
}

// filled gives the sector that begins so.
func filled(s string) string {
	return s + strings.Repeat("\x00", api.SectorSize-len(s))
}

// start gives a book of at most so many terms, whose next name is n.
func start(t *testing.T, most, n int) *book.Book {
	t.Helper()
	b, e := book.New(most)
	if e != api.OK {
		t.Fatalf("New(%d): %d", most, e)
	}
	for k := range n {
		if _, e := b.Name("term " + strconv.Itoa(k)); e != api.OK {
			t.Fatalf("Name: %d", e)
		}
	}
	return b
}

// P9.1, P10.1: a body and its hash's name are at most SectorSize bytes.
func TestSectorSize(t *testing.T) {
	for _, name := range []int{0, 1, 255, 256, 65535, 65536, api.MaxNum} {
		last := num(name)
		most := api.SectorSize - len(last)
		for n := range api.SectorSize + 10 {
			body := strings.Repeat("x", n)
			s, is := fill(body, name)
			if n <= most && (s != filled(body+last) || !is) {
				t.Errorf("fill of %d bytes, %d: %x, %v", n, name, s, is)
			}
			if n > most && (s != "" || is) {
				t.Errorf("fill of %d bytes, %d: %x, %v, want none", n, name, s, is)
			}
		}
		if s, is := fill(strings.Repeat("x", 1<<20), name); s != "" || is {
			t.Errorf("fill of a long body, %d: %x, %v", name, s, is)
		}
	}
	for _, name := range []int{-1, math.MinInt, api.MaxNum + 1, math.MaxInt} {
		if s, is := fill("x", name); s != "" || is {
			t.Errorf("fill of %d: %x, %v", name, s, is)
		}
	}
}

// P9.1, P10.1: a body's sector and its name, and that name's term.
func TestPut(t *testing.T) {
	b := start(t, 1000, 254)
	for k, c := range []struct{ word, body string }{
		{"record", "\x01\x02"}, {"super", "\x01\x02"}, {"super", "\x01\x03"}, {"", ""}, {"", "\x00"}, {"x", strings.Repeat("y", 61)},
	} {
		for range 2 {
			s, name, is := Put(b, c.word, c.body)
			if s != filled(c.body+num(254+k)) || name != 254+k || !is {
				t.Errorf("Put of %s, %x: %x, %d, %v", c.word, c.body, s, name, is)
			}
			if term, e := b.Term(name); term != "H"+c.word+c.body || e != api.OK {
				t.Errorf("Put of %s, %x: it names %x, %d", c.word, c.body, term, e)
			}
			if !Is(b, s, c.word, c.body, name) {
				t.Errorf("Is of %s, %x: false", c.word, c.body)
			}
		}
		if n := b.Len(); n != 254+k+1 {
			t.Errorf("Len: %d", n)
		}
	}
}

// P9.1, P10.1: what has no name or no room has no sector.
func TestNoPut(t *testing.T) {
	full := start(t, 3, 3)
	for _, c := range []struct {
		b          *book.Book
		word, body string
	}{
		{full, "super", "\x01\x01"},
		{nil, "super", "\x01\x01"},
		{new(book.Book), "super", "\x01\x01"},
		{start(t, 3, 0), "super", strings.Repeat("x", api.MaxTerm)},
		{start(t, 3, 0), strings.Repeat("x", api.MaxTerm), "x"},
		{start(t, 3, 0), "", strings.Repeat("x", api.SectorSize)},
		{start(t, 3, 1), "super", strings.Repeat("x", api.SectorSize-1)},
	} {
		if s, name, is := Put(c.b, c.word, c.body); s != "" || name != 0 || is {
			t.Errorf("Put of %d and %d bytes: %x, %d, %v", len(c.word), len(c.body), s, name, is)
		}
	}
	if n := full.Len(); n != 3 {
		t.Errorf("Len: %d", n)
	}
}

// P9.2, P10.1: a sector is of its own body, word and name alone, in its own book.
func TestIs(t *testing.T) {
	b := start(t, 100, 3)
	s, name, is := Put(b, "super", "\x01\x02")
	other, second, may := Put(b, "record", "\x01\x02")
	if !is || !may {
		t.Fatal("Put: false")
	}
	n := b.Len()
	if !Is(b, s, "super", "\x01\x02", name) || !Is(b, other, "record", "\x01\x02", second) {
		t.Error("Is: false")
	}
	for i, c := range []struct {
		b             *book.Book
		s, word, body string
		name          int
	}{
		{b, other, "super", "\x01\x02", name},
		{b, s, "record", "\x01\x02", name},
		{b, s, "record", "\x01\x02", second},
		{b, other, "super", "\x01\x02", second},
		{b, s, "super", "\x01\x03", name},
		{b, s, "super", "\x01", name},
		{b, s, "super\x01", "\x02", name},
		{b, s, "super", "\x01\x02", name + 1},
		{b, s, "super", "\x01\x02", -1},
		{b, s, "super", "\x01\x02", math.MaxInt},
		{b, s[:63], "super", "\x01\x02", name},
		{b, s + "\x00", "super", "\x01\x02", name},
		{b, s[:63] + "\x01", "super", "\x01\x02", name},
		{b, "", "super", "\x01\x02", name},
		{b, "", "", strings.Repeat("x", 64), name},
		{nil, s, "super", "\x01\x02", name},
		{start(t, 100, 5), s, "super", "\x01\x02", name},
		{new(book.Book), s, "super", "\x01\x02", name},
	} {
		if Is(c.b, c.s, c.word, c.body, c.name) {
			t.Errorf("Is: row %d: true", i)
		}
	}
	if b.Len() != n {
		t.Errorf("Len: %d", b.Len())
	}
}

// P9.2, P10.1: terms of other kinds with the same text are no hashes.
func TestKinds(t *testing.T) {
	b := start(t, 100, 0)
	for _, made := range []func() (int, api.Errno){
		func() (int, api.Errno) { return craft.Atom(b, "super\x01\x02") },
		func() (int, api.Errno) { return craft.Mac(b, 0, "super\x01\x02") },
		func() (int, api.Errno) { return craft.Seal(b, 0, "super\x01\x02") },
		func() (int, api.Errno) { return b.Name("super\x01\x02") },
	} {
		name, e := made()
		if e != api.OK || Is(b, filled("\x01\x02"+num(name)), "super", "\x01\x02", name) {
			t.Errorf("Is: the term %d, %d", name, e)
		}
	}
	name, e := craft.Hash(b, "super\x01\x02")
	if e != api.OK || !Is(b, filled("\x01\x02"+num(name)), "super", "\x01\x02", name) {
		t.Errorf("Is: the hash %d, %d", name, e)
	}
}

// P9.1, P10.1 with R4: two answers share no memory.
func TestMemory(t *testing.T) {
	b := start(t, 10, 0)
	one, _, is := Put(b, "super", "\x01\x02")
	two, _, may := Put(b, "super", "\x01\x02")
	if !is || !may || one != two {
		t.Fatal(is, may)
	}
	if unsafe.StringData(one) == unsafe.StringData(two) {
		t.Error("Put: shared memory")
	}
}
