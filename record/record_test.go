package record

import (
	"math"
	"math/rand"
	"slices"
	"strconv"
	"strings"
	"sync"
	"testing"
	"unsafe"

	"bastion/api"
	"bastion/book"
	"bastion/craft"
	"bastion/event"
)

// Numbers with their bytes, written out.
const (
	maxNum     = "\x04\x3f\xff\xff\xff"
	overNum    = "\x04\x40\x00\x00\x00"
	maxQuota   = "\x03\x10\x00\x00"
	maxTick    = "\x03\x0f\xff\xff"
	threeFifty = "\x02\x01\x5e"
)

// num gives a number's bytes, by layer 1's words.
func num(x int) string {
	out := ""
	for ; x > 0; x /= 256 {
		out = string([]byte{byte(x % 256)}) + out
	}
	return string([]byte{byte(len(out))}) + out
}

// filled gives the sector that begins so.
func filled(s string) string {
	return s + strings.Repeat("\x00", api.SectorSize-len(s))
}

// start gives a book of at most so many terms.
func start(t *testing.T, most int) *book.Book {
	t.Helper()
	b, e := book.New(most)
	if b == nil || e != api.OK {
		t.Fatalf("New(%d): %d", most, e)
	}
	return b
}

// startAt gives a book whose next name is n.
func startAt(t *testing.T, most, n int) *book.Book {
	t.Helper()
	b := start(t, most)
	for k := range n {
		if _, e := b.Name("term " + strconv.Itoa(k)); e != api.OK {
			t.Fatalf("Name: %d", e)
		}
	}
	return b
}

// hash names the hash of a text, as anybody may.
func hash(t *testing.T, b *book.Book, s string) int {
	t.Helper()
	name, e := craft.Hash(b, s)
	if e != api.OK {
		t.Fatalf("Hash(%x): %d", s, e)
	}
	return name
}

// tell is a record for a message.
func tell(r api.Record) string {
	out := "record"
	for _, x := range []int{r.Seq, r.Boot, r.Prev, r.Event.Kind, r.Event.User, r.Event.Session, r.Event.Address, r.Event.A, r.Event.B, r.Event.C, r.Event.Tick} {
		out += " " + strconv.Itoa(x)
	}
	return out
}

func checkLen(t *testing.T, b *book.Book, want int) {
	t.Helper()
	if n := b.Len(); n != want {
		t.Errorf("Len: %d, want %d", n, want)
	}
}

// checkPut tells that r is put as a sector of that body and that name, which is its
// hash's.
func checkPut(t *testing.T, b *book.Book, r api.Record, body string, name int) string {
	t.Helper()
	want := filled(body + num(name))
	s, own, e := Put(b, r)
	if s != want || own != name || e != api.OK {
		t.Errorf("Put of %s: %x, %d, %d, want %x, %d", tell(r), s, own, e, want, name)
	}
	if term, e := b.Term(name); term != "Hrecord"+body || e != api.OK {
		t.Errorf("Put of %s: it names %x, %d, want that of %x", tell(r), term, e, body)
	}
	return want
}

// checkNoPut tells that r is refused, and names nothing.
func checkNoPut(t *testing.T, b *book.Book, r api.Record) {
	t.Helper()
	n := b.Len()
	if s, name, e := Put(b, r); s != "" || name != 0 || e != api.ErrRecordForm {
		t.Errorf("Put of %s: %x, %d, %d, want ErrRecordForm", tell(r), s, name, e)
	}
	checkLen(t, b, n)
}

// checkGet tells what Get gives of a sector, and that it names nothing.
func checkGet(t *testing.T, b *book.Book, s string, seq, prev int, r api.Record, name int, e api.Errno) {
	t.Helper()
	n := b.Len()
	if got, own, f := Get(b, s, seq, prev); got != r || own != name || f != e {
		t.Errorf("Get(%x, %d, %d): %s, %d, %d, want %s, %d, %d", s, seq, prev, tell(got), own, f, tell(r), name, e)
	}
	checkLen(t, b, n)
}

// checkNoGet tells that s is no sector of a record, whatever place is asked.
func checkNoGet(t *testing.T, b *book.Book, s string) {
	t.Helper()
	for _, x := range []int{1, 300, 0, -1, api.MaxNum, math.MaxInt} {
		checkGet(t, b, s, x, 0, api.Record{}, 0, api.ErrRecordForm)
		checkGet(t, b, s, 1, x, api.Record{}, 0, api.ErrRecordForm)
		checkGet(t, b, s, x, x, api.Record{}, 0, api.ErrRecordForm)
	}
}

// checkBack tells that r is got from what it is put as, and put so again.
func checkBack(t *testing.T, b *book.Book, r api.Record) string {
	t.Helper()
	s, name, e := Put(b, r)
	if len(s) != api.SectorSize || e != api.OK {
		t.Errorf("Put of %s: %x, %d", tell(r), s, e)
	}
	checkGet(t, b, s, r.Seq, r.Prev, r, name, api.OK)
	n := b.Len()
	again, same, e := Put(b, r)
	if again != s || same != name || e != api.OK {
		t.Errorf("Put of %s again: %x, %d, %d, want %x, %d", tell(r), again, same, e, s, name)
	}
	checkLen(t, b, n)
	return s
}

// ordinary are records of each kind of event with their bodies.
var ordinary = []struct {
	r    api.Record
	body string
}{
	{api.Record{Seq: 1, Boot: 1, Event: api.Event{Kind: api.EvBoot, Tick: 350}}, "\x01\x01\x01\x01\x00" + "\x01\x04" + "\x00" + threeFifty},
	{api.Record{Seq: 2, Boot: 1, Prev: 9, Event: api.Event{Kind: api.EvUser, User: 3, A: 350, B: 65536, C: 5}}, "\x01\x02\x01\x01\x01\x09" + "\x01\x0d" + "\x01\x01" + "\x01\x03" + threeFifty + "\x03\x01\x00\x00" + "\x01\x05"},
	{api.Record{Seq: 3, Boot: 2, Prev: 256, Event: api.Event{Kind: api.EvFail, User: 2, Tick: 350}}, "\x01\x03\x01\x02\x02\x01\x00" + "\x01\x07" + "\x01\x02" + "\x01\x02" + threeFifty},
	{api.Record{Seq: 255, Boot: 256, Event: api.Event{Kind: api.EvPass, User: 4, A: 350}}, "\x01\xff\x02\x01\x00\x00" + "\x01\x07" + "\x01\x03" + "\x01\x04" + threeFifty},
	{api.Record{Seq: 350, Boot: 1, Prev: 1, Event: api.Event{Kind: api.EvUnlock, User: 5}}, threeFifty + "\x01\x01\x01\x01" + "\x01\x04" + "\x01\x04" + "\x01\x05"},
	{api.Record{Seq: 5, Boot: 350, Prev: 2, Event: api.Event{Kind: api.EvLease, Session: 350, User: 1, Address: 12, Tick: 65536}}, "\x01\x05" + threeFifty + "\x01\x02" + "\x01\x0d" + "\x01\x05" + threeFifty + "\x01\x01" + "\x01\x0c" + "\x03\x01\x00\x00"},
	{api.Record{Seq: 6, Boot: 7, Prev: 350, Event: api.Event{Kind: api.EvClose, Session: 350, A: 65536, B: api.WhyQuota, Tick: 9}}, "\x01\x06\x01\x07" + threeFifty + "\x01\x0d" + "\x01\x06" + threeFifty + "\x03\x01\x00\x00" + "\x01\x03" + "\x01\x09"},
	{api.Record{Seq: 65536, Boot: 1023, Prev: 65535, Event: api.Event{Kind: api.EvRevoke, User: 6}}, "\x03\x01\x00\x00\x02\x03\xff\x02\xff\xff" + "\x01\x04" + "\x01\x07" + "\x01\x06"},
	{api.Record{Seq: 8, Boot: 1, Prev: 7, Event: api.Event{Kind: api.EvRotate}}, "\x01\x08\x01\x01\x01\x07" + "\x01\x02" + "\x01\x08"},
	{api.Record{Seq: 9, Boot: 1, Prev: 8, Event: api.Event{Kind: api.EvSpend, Session: 350}}, "\x01\x09\x01\x01\x01\x08" + "\x01\x05" + "\x01\x09" + threeFifty},
	// The least of all bodies, and the greatest.
	{api.Record{Seq: 1, Boot: 1}, "\x01\x01\x01\x01\x00" + "\x01\x02" + "\x00\x00"},
	{api.Record{Seq: api.MaxNum, Boot: api.MaxNum, Prev: api.MaxNum, Event: api.Event{Kind: api.EvUser, User: api.MaxUsers - 1, A: api.MaxNum, B: api.MaxNum, C: api.MaxQuota}}, maxNum + maxNum + maxNum + "\x01\x12" + "\x01\x01" + "\x01\x07" + maxNum + maxNum + maxQuota},
	{api.Record{Seq: api.MaxNum, Boot: 1, Prev: api.MaxNum, Event: api.Event{Kind: api.EvClose, Session: api.MaxNum, A: api.MaxNum, B: api.WhyKick, Tick: api.MaxTick}}, maxNum + "\x01\x01" + maxNum + "\x01\x12" + "\x01\x06" + maxNum + maxNum + "\x01\x04" + maxTick},
}

// P9.1, P9.2: records of each kind of event, with their bytes, and back.
func TestOrdinary(t *testing.T) {
	b := start(t, 100)
	for name, c := range ordinary {
		s := checkPut(t, b, c.r, c.body, name)
		checkGet(t, b, s, c.r.Seq, c.r.Prev, c.r, name, api.OK)
		checkLen(t, b, name+1)
	}
	// A name stays, and so do the sectors.
	for name, c := range ordinary {
		s := checkPut(t, b, c.r, c.body, name)
		checkGet(t, b, s, c.r.Seq, c.r.Prev, c.r, name, api.OK)
	}
	checkLen(t, b, len(ordinary))
}

// P9.1, P9.2: names of each length, and the greatest that a book has.
func TestNames(t *testing.T) {
	for _, row := range []struct {
		name int
		s    string
	}{{0, "\x00"}, {1, "\x01\x01"}, {255, "\x01\xff"}, {256, "\x02\x01\x00"}, {257, "\x02\x01\x01"}, {65280, "\x02\xff\x00"}, {api.MaxTerms - 1, "\x02\xff\xff"}} {
		for _, c := range ordinary {
			b := startAt(t, row.name+1, row.name)
			s := checkPut(t, b, c.r, c.body, row.name)
			if s != filled(c.body+row.s) {
				t.Errorf("Put of %s: %x, want the name %x", tell(c.r), s, row.s)
			}
			checkGet(t, b, s, c.r.Seq, c.r.Prev, c.r, row.name, api.OK)
			if row.name > 256 {
				break
			}
		}
	}
}

// with gives a record whose Seq, Boot or Prev is turned.
func with(r api.Record, place, x int) api.Record {
	*[]*int{&r.Seq, &r.Boot, &r.Prev}[place] = x
	return r
}

// P9.1, P9.2: Seq and Boot are from 1 to MaxNum, and Prev from 0.
func TestNumbers(t *testing.T) {
	b := start(t, api.MaxTerms)
	for _, c := range ordinary {
		for place, least := range []int{1, 1, 0} {
			for _, x := range []int{0, 1, 2, 255, 256, 65535, 65536, 16777215, 16777216, api.MaxNum - 1, api.MaxNum} {
				if x >= least {
					checkBack(t, b, with(c.r, place, x))
				} else {
					checkNoPut(t, b, with(c.r, place, x))
				}
			}
			for _, x := range []int{-1, -2, -256, math.MinInt32, math.MinInt, api.MaxNum + 1, api.MaxNum + 2, math.MaxInt32, 1 << 32, 1<<32 + 1, math.MaxInt} {
				checkNoPut(t, b, with(c.r, place, x))
			}
		}
	}
}

// noEvents are events that may not be.
var noEvents = []api.Event{
	{Kind: 10}, {Kind: -1}, {Kind: math.MaxInt}, {Kind: 1 << 32},
	{User: 1}, {Session: 1}, {Address: 1}, {A: 1}, {B: 1}, {C: 1}, {Tick: -1}, {Tick: api.MaxTick + 1},
	{Kind: api.EvUser, User: api.MaxUsers}, {Kind: api.EvUser, A: api.MaxNum + 1}, {Kind: api.EvUser, C: api.MaxQuota + 1}, {Kind: api.EvUser, Tick: 1},
	{Kind: api.EvFail, User: -1}, {Kind: api.EvPass, B: 1}, {Kind: api.EvUnlock, Session: 1},
	{Kind: api.EvLease, Address: api.MaxAddresses}, {Kind: api.EvClose, B: 5}, {Kind: api.EvRevoke, User: 8}, {Kind: api.EvRotate, A: 1}, {Kind: api.EvSpend, Session: -1},
}

// P9.1: an event that may not be, beside numbers that may.
func TestNoEvents(t *testing.T) {
	b := start(t, 100)
	for _, x := range noEvents {
		for _, c := range ordinary {
			r := c.r
			r.Event = x
			checkNoPut(t, b, r)
		}
	}
	checkLen(t, b, 0)
}

// P9.1: no event that may be has more than MaxEvent bytes; those that had would be refused.
func TestMaxEvent(t *testing.T) {
	for _, c := range ordinary {
		if x, e := event.Put(c.r.Event); len(x) > api.MaxEvent || e != api.OK {
			t.Errorf("event of %s: %d bytes, %d", tell(c.r), len(x), e)
		}
	}
	for _, n := range []int{0, 1, 2, 18, 43, 44} {
		x := strings.Repeat("x", n)
		if s, is := frame(x); s != num(n)+x || !is {
			t.Errorf("frame of %d bytes: %x, %v", n, s, is)
		}
	}
	for _, n := range []int{45, 46, 64, 255, api.MaxText, api.MaxText + 1, 1 << 20} {
		if s, is := frame(strings.Repeat("x", n)); s != "" || is {
			t.Errorf("frame of %d bytes: %d bytes, %v", n, len(s), is)
		}
	}
}

// P9.1: a book that is full refuses what it has not, and names what it has.
func TestFull(t *testing.T) {
	for _, most := range []int{1, 2, 3, 256} {
		b := startAt(t, most, most-1)
		first := ordinary[1]
		s := checkPut(t, b, first.r, first.body, most-1)
		for _, c := range ordinary {
			if c != first {
				checkNoPut(t, b, c.r)
			}
		}
		checkNoPut(t, b, api.Record{})
		checkPut(t, b, first.r, first.body, most-1)
		checkGet(t, b, s, first.r.Seq, first.r.Prev, first.r, most-1, api.OK)
		checkLen(t, b, most)
	}
}

// P9.1: the greatest book, full of other terms.
func TestGreatest(t *testing.T) {
	b := startAt(t, api.MaxTerms, api.MaxTerms)
	for _, c := range ordinary {
		checkNoPut(t, b, c.r)
		checkNoGet(t, b, filled(c.body+num(api.MaxTerms-1)))
		checkNoGet(t, b, filled(c.body+num(api.MaxTerms)))
		checkNoGet(t, b, filled(c.body+maxNum))
	}
}

// P9.1, P9.2: a book with the longest term of all, in a row with a record's.
func TestLongest(t *testing.T) {
	b := start(t, 3)
	long := "Hrecord" + strings.Repeat("x", api.MaxTerm-7)
	if _, e := b.Name(long); e != api.OK {
		t.Fatal(e)
	}
	s := checkPut(t, b, ordinary[0].r, ordinary[0].body, 1)
	checkNoGet(t, b, filled(ordinary[0].body+num(0)))
	checkGet(t, b, s, 1, 0, ordinary[0].r, 1, api.OK)
	if _, e := b.Name("x" + long[1:]); e != api.OK {
		t.Fatal(e)
	}
	checkNoPut(t, b, ordinary[1].r)
}

// P9.1: a hash that stands in the book already, whoever made it, keeps its name.
func TestMade(t *testing.T) {
	b := startAt(t, 100, 5)
	for k, c := range ordinary {
		// What was asked ahead of it is not named by that.
		checkNoGet(t, b, filled(c.body+num(5+k)))
		if name := hash(t, b, "record"+c.body); name != 5+k {
			t.Fatalf("Hash: %d", name)
		}
		s := checkPut(t, b, c.r, c.body, 5+k)
		checkGet(t, b, s, c.r.Seq, c.r.Prev, c.r, 5+k, api.OK)
		checkLen(t, b, 6+k)
	}
}

// P9.1, P9.2 with R3 and R6: a nil book, told ahead of what else is wrong.
func TestNil(t *testing.T) {
	b := start(t, 100)
	rows := []api.Record{{}, {Seq: -1}, {Seq: 1, Boot: 1, Event: api.Event{Kind: 10}}}
	sectors := []string{"", "x", filled(""), strings.Repeat("\xff", api.SectorSize)}
	for name, c := range ordinary {
		rows = append(rows, c.r)
		sectors = append(sectors, checkPut(t, b, c.r, c.body, name))
	}
	for _, r := range rows {
		if s, name, e := Put(nil, r); s != "" || name != 0 || e != api.ErrNil {
			t.Errorf("Put of %s: %x, %d, %d, want ErrNil", tell(r), s, name, e)
		}
	}
	for _, s := range sectors {
		for _, seq := range []int{-1, 0, 1, 2, 3} {
			if r, name, e := Get(nil, s, seq, 0); r != (api.Record{}) || name != 0 || e != api.ErrNil {
				t.Errorf("Get(%x): %s, %d, %d, want ErrNil", s, tell(r), name, e)
			}
		}
	}
}

// P9.1, P9.2 with R1: a book that layer 2 did not make has no terms and names none.
func TestUnmade(t *testing.T) {
	b := new(book.Book)
	for _, c := range ordinary {
		checkNoPut(t, b, c.r)
		checkNoGet(t, b, filled(c.body+num(0)))
	}
}

// P9.2: texts that have not SectorSize bytes.
func TestLengths(t *testing.T) {
	b := start(t, 100)
	for name, c := range ordinary {
		s := checkPut(t, b, c.r, c.body, name)
		for k := range api.SectorSize {
			checkNoGet(t, b, s[:k])
			checkNoGet(t, b, s[k+1:])
		}
		for _, more := range []string{"\x00", "\x01", "\xff", s, filled(""), strings.Repeat("\x00", 1<<20)} {
			checkNoGet(t, b, s+more)
			checkNoGet(t, b, more+s)
		}
	}
	for _, n := range []int{0, 1, 63, 64, 65, 128, 1 << 20} {
		for _, c := range []string{"\x00", "\x01", "\x04", "\xff"} {
			checkNoGet(t, b, strings.Repeat(c, n))
		}
	}
}

// held is a record, and its hash's name.
type held struct {
	r    api.Record
	name int
}

// puts gives a book with the ordinary records, and what each of their sectors is of.
func puts(t *testing.T) (*book.Book, map[string]held) {
	t.Helper()
	b := startAt(t, 1000, 250)
	sectors := map[string]held{}
	for k, c := range ordinary {
		sectors[checkPut(t, b, c.r, c.body, 250+k)] = held{c.r, 250 + k}
	}
	return b, sectors
}

// checkOne tells that s is taken if it is one of the sectors, and else not.
func checkOne(t *testing.T, b *book.Book, sectors map[string]held, s string) {
	t.Helper()
	if p, is := sectors[s]; is {
		checkGet(t, b, s, p.r.Seq, p.r.Prev, p.r, p.name, api.OK)
		return
	}
	checkGet(t, b, s, 1, 0, api.Record{}, 0, api.ErrRecordForm)
}

// P9.2: each byte of a sector turned into each other, and two of them at a time.
func TestTurned(t *testing.T) {
	b, sectors := puts(t)
	for s := range sectors {
		for k := range len(s) {
			x := []byte(s)
			for c := range 256 {
				x[k] = byte(c)
				checkOne(t, b, sectors, string(x))
			}
			for m := range k {
				x := []byte(s)
				x[k]++
				x[m]--
				checkOne(t, b, sectors, string(x))
			}
		}
	}
}

// P9.2: a byte left out, or one more, at each place, with as many bytes as before.
func TestMoved(t *testing.T) {
	b, sectors := puts(t)
	for s := range sectors {
		for k := range len(s) {
			checkOne(t, b, sectors, s[:k]+s[k+1:]+"\x00")
			for _, c := range []string{"\x00", "\x01", "\xff"} {
				checkOne(t, b, sectors, s[:k]+c+s[k:len(s)-1])
			}
		}
	}
}

// P9.2: a sector that is torn at each place over zeros, over other bytes, and over each of the others.
func TestTorn(t *testing.T) {
	b, sectors := puts(t)
	below := []string{filled(""), strings.Repeat("\x01", api.SectorSize), strings.Repeat("\xff", api.SectorSize)}
	for s := range sectors {
		below = append(below, s)
	}
	for s, p := range sectors {
		end := len(strings.TrimRight(s, "\x00"))
		for k := range api.SectorSize + 1 {
			for _, low := range below {
				checkOne(t, b, sectors, s[:k]+low[k:])
				checkOne(t, b, sectors, low[:k]+s[k:])
			}
			// Over zeros it is the record from its last byte on that is not 0, and none ahead of that.
			if _, is := sectors[s[:k]+filled("")[k:]]; is != (k >= end) {
				t.Errorf("torn %s at %d: %v", tell(p.r), k, is)
			}
		}
	}
}

// P9.2: a sector that is all zeros is none, though there be a hash of the name 0.
func TestZeros(t *testing.T) {
	b := start(t, 100)
	checkNoGet(t, b, filled(""))
	checkPut(t, b, ordinary[0].r, ordinary[0].body, 0)
	checkNoGet(t, b, filled(""))
	for _, text := range []string{"record", "record\x00\x00\x00\x00", "record" + filled(""), ""} {
		hash(t, b, text)
		checkNoGet(t, b, filled(""))
	}
}

// P9.2: behind the name all is zero.
func TestBehind(t *testing.T) {
	b, sectors := puts(t)
	for _, c := range ordinary {
		name, _ := b.Find("Hrecord" + c.body)
		s := c.body + num(name)
		for k := len(s); k < api.SectorSize; k++ {
			for c := 1; c < 256; c++ {
				checkOne(t, b, sectors, filled(s+strings.Repeat("\x00", k-len(s))+string([]byte{byte(c)})))
			}
		}
		checkNoGet(t, b, s+strings.Repeat("\x01", api.SectorSize-len(s)))
		checkNoGet(t, b, s+strings.Repeat(" ", api.SectorSize-len(s)))
	}
}

// P9.2: the name behind a body is that of its own hash alone.
func TestOthersNames(t *testing.T) {
	b, sectors := puts(t)
	for _, c := range ordinary {
		// What is not the hash of the word and the body.
		for _, text := range []string{
			c.body, "super" + c.body, "Record" + c.body, "record " + c.body, "recor" + c.body, c.body + "record", "recordrecord" + c.body,
			"record" + c.body + "\x00", "record" + filled(c.body), "record" + c.body[1:], "record" + c.body[:len(c.body)-1], "record", "",
		} {
			hash(t, b, text)
		}
		for _, made := range []func() (int, api.Errno){
			func() (int, api.Errno) { return craft.Atom(b, "record"+c.body) },
			func() (int, api.Errno) { return craft.Mac(b, 0, "record"+c.body) },
			func() (int, api.Errno) { return craft.Seal(b, 0, "record"+c.body) },
			func() (int, api.Errno) { return b.Name("record" + c.body) },
			func() (int, api.Errno) { return b.Name("HH" + "record" + c.body) },
		} {
			if _, e := made(); e != api.OK {
				t.Fatal(e)
			}
		}
	}
	for _, c := range ordinary {
		for name := range b.Len() + 2 {
			checkOne(t, b, sectors, filled(c.body+num(name)))
		}
		for _, name := range []int{api.MaxTerms, api.MaxNum} {
			checkNoGet(t, b, filled(c.body+num(name)))
		}
		// A body without a name.
		checkNoGet(t, b, filled(c.body))
	}
}

// P9.2: bodies whose hash stands in the book, and which are none that Put gives.
func TestForged(t *testing.T) {
	boot := "\x01\x02\x00\x00"
	b := startAt(t, 1000, 3)
	var all []string
	// Seq, Boot and Prev that may not be, or whose bytes are no number's.
	for _, s := range []string{"\x00", overNum, "\x04\xff\xff\xff\xff", "\x01\x00", "\x02\x00\x01", "\x04\x00\x00\x00\x01", "\x05\x01\x01\x01\x01\x01", "\xff"} {
		all = append(all, s+"\x01\x01\x00"+boot, "\x01\x01"+s+"\x00"+boot)
		if s != "\x00" {
			all = append(all, "\x01\x01\x01\x01"+s+boot)
		}
	}
	// Texts whose bytes are none.
	head := "\x01\x01\x01\x01\x00"
	all = append(all, head, head+"\x02\x00\x02\x00\x00", head+"\x05\x00\x00", head+"\x01\x03\x00\x00", head+"\x01\x01\x00\x00", head+"\x00\x00\x00", head+"\x03\x01\x00\x01\x00\x00")
	// Texts that are no event's bytes: more of them, fewer, and others; some of MaxEvent bytes and one more.
	for _, x := range []string{"", "\x00", "\x00\x00\x00", "\x01\x0a", "\x01\x08\x00", "\x01\x04\x01\x08", "\x01\x04\x00\x00", "\x00\x02\x00\x05", "\x00\x03\x10\x00\x00", "\x01\x06\x00\x00\x01\x05\x00", "\x01\x00\x00"} {
		all = append(all, head+num(len(x))+x)
	}
	for _, n := range []int{43, 44, 45, 46, 50, 54} {
		x := strings.Repeat("\x00", n)
		y := "\x01\x08" + strings.Repeat("\x00", n-2)
		all = append(all, head+num(n)+x, head+num(n)+y)
	}
	// More behind the text, within the body.
	all = append(all, head+boot+"\x00", head+boot+"\x01\x01", boot, "\x00"+head+boot)
	for _, body := range all {
		name := hash(t, b, "record"+body)
		checkNoGet(t, b, filled(body+num(name)))
		checkNoGet(t, b, filled(body+"\x00"))
	}
	// What is right but for its name's bytes.
	name := hash(t, b, "record"+head+boot)
	checkGet(t, b, filled(head+boot+num(name)), 1, 0, api.Record{Seq: 1, Boot: 1}, name, api.OK)
	checkNoGet(t, b, filled(head+boot+"\x02\x00"+num(name)[1:]))
	checkNoGet(t, b, filled(head+boot+"\x03\x00\x00"+num(name)[1:]))
	checkNoGet(t, b, filled(head+boot+"\x00"+num(name)))
	checkNoGet(t, b, filled(num(name)+head+boot))
}

// P9.2: a sector that ends within a number, the text or the name.
func TestCut(t *testing.T) {
	b := start(t, 1000)
	for _, c := range ordinary {
		whole := c.body + num(hash(t, b, "record"+c.body))
		for k := range len(whole) {
			// The cut is at the sector's end, so that no zeros stand in for what is missing.
			checkNoGet(t, b, strings.Repeat("\x00", api.SectorSize-k)+whole[:k])
			checkNoGet(t, b, strings.Repeat("\x01", api.SectorSize-k)+whole[:k])
		}
		checkNoGet(t, b, strings.Repeat("\x00", api.SectorSize-len(whole))+whole)
	}
	for k := range api.SectorSize {
		for _, s := range []string{"\x04", "\x03\x01\x00\x00", "\x01\x01\x01\x01\x00\x01\x40", "\x01\x01\x01\x01\x00\x01\x02\x00\x00\x04"} {
			checkNoGet(t, b, (strings.Repeat("\x01", k) + s + filled(""))[:api.SectorSize])
		}
	}
}

// P9.2: a record in another place than its own.
func TestChain(t *testing.T) {
	b, sectors := puts(t)
	far := []int{0, 1, 2, 255, 256, api.MaxNum, api.MaxNum + 1, -1, math.MinInt, math.MaxInt, math.MaxInt32, 1 << 32}
	for s, p := range sectors {
		r := p.r
		for _, x := range slices.Concat(far, []int{r.Seq - 1, r.Seq + 1, -r.Seq, r.Prev, r.Boot, p.name, r.Seq + 1<<32}) {
			if x != r.Seq {
				checkGet(t, b, s, x, r.Prev, api.Record{}, 0, api.ErrRecordChain)
				checkGet(t, b, s, x, x, api.Record{}, 0, api.ErrRecordChain)
			}
		}
		for _, x := range slices.Concat(far, []int{r.Prev - 1, r.Prev + 1, ^r.Prev, r.Seq, r.Boot, p.name, r.Prev + 1<<32}) {
			if x != r.Prev {
				checkGet(t, b, s, r.Seq, x, api.Record{}, 0, api.ErrRecordChain)
				checkGet(t, b, s, r.Seq+1, x, api.Record{}, 0, api.ErrRecordChain)
			}
		}
		checkGet(t, b, s, r.Seq, r.Prev, r, p.name, api.OK)
	}
}

// P9.2 with R6: what is no sector is told ahead of its place, and a place that is not its own is told of a sector alone.
func TestFormFirst(t *testing.T) {
	b, sectors := puts(t)
	for s, p := range sectors {
		for _, bad := range []string{s[:63], s + "\x00", s[:63] + "\x01", "\x00" + s[:63], "\xff" + s[1:], ""} {
			for _, seq := range []int{p.r.Seq, p.r.Seq + 1, 0, -1} {
				for _, prev := range []int{p.r.Prev, p.r.Prev + 1, -1} {
					checkGet(t, b, bad, seq, prev, api.Record{}, 0, api.ErrRecordForm)
				}
			}
		}
	}
}

// P9.1, P9.2: records in a row, each with the name of the one ahead; each is taken in its place alone.
func TestRow(t *testing.T) {
	b := startAt(t, 10000, 200)
	var sectors []string
	prevs := []int{0}
	for k := range 254 {
		r := api.Record{Seq: k + 1, Boot: 1 + k/10, Prev: prevs[k], Event: ordinary[k%10].r.Event}
		s, name, e := Put(b, r)
		if e != api.OK || name != 200+k {
			t.Fatalf("Put of %s: %d, %d", tell(r), name, e)
		}
		sectors = append(sectors, s)
		prevs = append(prevs, name)
	}
	for k, s := range sectors {
		for m := range sectors {
			r, name, e := Get(b, s, m+1, prevs[m])
			if k == m && (e != api.OK || name != prevs[k+1] || r.Seq != k+1 || r.Prev != prevs[k] || r.Boot != 1+k/10 || r.Event != ordinary[k%10].r.Event) {
				t.Errorf("Get of the record %d: %s, %d, %d", k, tell(r), name, e)
			}
			if k != m && (e != api.ErrRecordChain || name != 0 || r != (api.Record{})) {
				t.Errorf("Get of the record %d in the place %d: %s, %d, %d", k, m, tell(r), name, e)
			}
		}
	}
	checkLen(t, b, 200+254)
}

// number gives one from 0 to most, of any length.
func number(x *rand.Rand, most int) int {
	return x.Intn(1+most) >> x.Intn(31)
}

// anyEvent gives an event that may be.
func anyEvent(x *rand.Rand) api.Event {
	user, num, tick := x.Intn(api.MaxUsers), number(x, api.MaxNum), number(x, api.MaxTick)
	return []api.Event{
		{Kind: api.EvBoot, Tick: tick},
		{Kind: api.EvUser, User: user, A: num, B: number(x, api.MaxNum), C: number(x, api.MaxQuota)},
		{Kind: api.EvFail, User: user, Tick: tick},
		{Kind: api.EvPass, User: user, A: num},
		{Kind: api.EvUnlock, User: user},
		{Kind: api.EvLease, Session: num, User: user, Address: x.Intn(api.MaxAddresses), Tick: tick},
		{Kind: api.EvClose, Session: num, A: number(x, api.MaxNum), B: x.Intn(5), Tick: tick},
		{Kind: api.EvRevoke, User: user},
		{Kind: api.EvRotate},
		{Kind: api.EvSpend, Session: num},
	}[x.Intn(10)]
}

// P9.1, P9.2: there and back, for any records; unlike ones have unlike sectors and names.
func TestBack(t *testing.T) {
	x := rand.New(rand.NewSource(9))
	b := start(t, api.MaxTerms)
	seen := map[string]api.Record{}
	for range 20000 {
		r := api.Record{Seq: max(1, number(x, api.MaxNum)), Boot: max(1, number(x, api.MaxNum)), Prev: number(x, api.MaxNum), Event: anyEvent(x)}
		s := checkBack(t, b, r)
		text, e := event.Put(r.Event)
		body := num(r.Seq) + num(r.Boot) + num(r.Prev) + num(len(text)) + text
		name, is := b.Find("Hrecord" + body)
		if s != filled(body+num(name)) || !is || e != api.OK {
			t.Errorf("Put of %s: %x, want the body %x, the name %d", tell(r), s, body, name)
		}
		if other, is := seen[s]; is && other != r {
			t.Errorf("Put of %s and %s: %x", tell(r), tell(other), s)
		}
		seen[s] = r
	}
	checkLen(t, b, len(seen))
}

// P9.2: whatever is taken is put again, byte for byte.
func TestAgain(t *testing.T) {
	x := rand.New(rand.NewSource(10))
	b := start(t, api.MaxTerms)
	taken := 0
	for range 20000 {
		head := num(x.Intn(3)) + num(x.Intn(3)) + num(x.Intn(3))
		text := num(x.Intn(11)) + num(x.Intn(9))
		body := head + num(len(text)) + text
		name := hash(t, b, "record"+body)
		s := filled(body + num(name) + []string{"", "", "", "\x00", "\x01"}[x.Intn(5)])
		for k := range 9 {
			r, own, e := Get(b, s, k/3, k%3)
			if e != api.OK {
				continue
			}
			taken++
			if again, same, e := Put(b, r); again != s || own != name || same != name || e != api.OK {
				t.Errorf("Put of %s: %x, %d, %d, want %x, %d", tell(r), again, same, e, s, name)
			}
		}
	}
	if taken == 0 {
		t.Error("none is taken")
	}
}

// P9.2 with R5: one book's records are not another's.
func TestBooks(t *testing.T) {
	one, two := start(t, 10), start(t, 10)
	s := checkPut(t, one, ordinary[0].r, ordinary[0].body, 0)
	checkNoGet(t, two, s)
	other := checkPut(t, two, ordinary[1].r, ordinary[1].body, 0)
	checkNoGet(t, two, s)
	checkNoGet(t, one, other)
	checkPut(t, two, ordinary[0].r, ordinary[0].body, 1)
	checkNoGet(t, two, s)
	checkGet(t, one, s, 1, 0, ordinary[0].r, 0, api.OK)
}

// P9.1 with R4: two answers share no memory.
func TestMemory(t *testing.T) {
	b := start(t, 10)
	one, _, e := Put(b, ordinary[0].r)
	two, _, f := Put(b, ordinary[0].r)
	if e != api.OK || f != api.OK || one != two {
		t.Fatal(e, f)
	}
	if unsafe.StringData(one) == unsafe.StringData(two) {
		t.Error("Put: shared memory")
	}
}

// P9.1, P9.2 with R5: several goroutines at one time, each with a book.
func TestAtOneTime(t *testing.T) {
	var all sync.WaitGroup
	for k := range 8 {
		b := startAt(t, 100, k)
		all.Go(func() {
			for name, c := range ordinary {
				s := checkPut(t, b, c.r, c.body, k+name)
				checkGet(t, b, s, c.r.Seq, c.r.Prev, c.r, k+name, api.OK)
				checkGet(t, b, s, c.r.Seq, c.r.Prev+1, api.Record{}, 0, api.ErrRecordChain)
			}
		})
	}
	all.Wait()
}
