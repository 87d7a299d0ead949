package super

import (
	"math"
	"math/rand"
	"strconv"
	"strings"
	"sync"
	"testing"
	"unsafe"

	"bastion/api"
	"bastion/book"
	"bastion/craft"
	"bastion/disk"
	"bastion/record"
)

// num gives a number's bytes, by layer 1's words.
func num(x int) string {
	out := ""
	for ; x > 0; x /= 256 {
		out = string([]byte{byte(x % 256)}) + out
	}
	return string([]byte{byte(len(out))}) + out
}

// filled gives the sector that begins so.
func filled(s string) string {
	return s + strings.Repeat("\x00", api.SectorSize-len(s))
}

// start gives a book of at most so many terms.
func start(t *testing.T, most int) *book.Book {
	t.Helper()
	b, e := book.New(most)
	if b == nil || e != api.OK {
		t.Fatalf("New(%d): %d", most, e)
	}
	return b
}

// startAt gives a book whose next name is n.
func startAt(t *testing.T, most, n int) *book.Book {
	t.Helper()
	b := start(t, most)
	for k := range n {
		if _, e := b.Name("term " + strconv.Itoa(k)); e != api.OK {
			t.Fatalf("Name: %d", e)
		}
	}
	return b
}

// hash names the hash of a text, as anybody may.
func hash(t *testing.T, b *book.Book, s string) int {
	t.Helper()
	name, e := craft.Hash(b, s)
	if e != api.OK {
		t.Fatalf("Hash(%x): %d", s, e)
	}
	return name
}

func checkLen(t *testing.T, b *book.Book, want int) {
	t.Helper()
	if n := b.Len(); n != want {
		t.Errorf("Len: %d, want %d", n, want)
	}
}

// checkPut tells that a boot is put as its number and that name, which is its hash's.
func checkPut(t *testing.T, b *book.Book, boot, name int) string {
	t.Helper()
	want := filled(num(boot) + num(name))
	if s, e := Put(b, boot); s != want || e != api.OK {
		t.Errorf("Put(%d): %x, %d, want %x", boot, s, e, want)
	}
	if term, e := b.Term(name); term != "Hsuper"+num(boot) || e != api.OK {
		t.Errorf("Put(%d): it names %x, %d", boot, term, e)
	}
	return want
}

// checkNoPut tells that a boot is refused, and names nothing.
func checkNoPut(t *testing.T, b *book.Book, boot int) {
	t.Helper()
	n := b.Len()
	if s, e := Put(b, boot); s != "" || e != api.ErrSuperForm {
		t.Errorf("Put(%d): %x, %d, want ErrSuperForm", boot, s, e)
	}
	checkLen(t, b, n)
}

// checkGet tells what Get gives of a sector, and that it names nothing.
func checkGet(t *testing.T, b *book.Book, s string, boot int, e api.Errno) {
	t.Helper()
	n := b.Len()
	if got, f := Get(b, s); got != boot || f != e {
		t.Errorf("Get(%x): %d, %d, want %d, %d", s, got, f, boot, e)
	}
	checkLen(t, b, n)
}

// checkNoGet tells that s is no sector of a boot, nor one that Pick takes.
func checkNoGet(t *testing.T, b *book.Book, s string) {
	t.Helper()
	checkGet(t, b, s, 0, api.ErrSuperForm)
	checkPick(t, b, s, s, 0, 0, api.ErrSuperNone)
}

// checkPick tells what Pick gives of two sectors, and that it names nothing.
func checkPick(t *testing.T, b *book.Book, one, two string, boot, next int, e api.Errno) {
	t.Helper()
	n := b.Len()
	if got, place, f := Pick(b, one, two); got != boot || place != next || f != e {
		t.Errorf("Pick(%x, %x): %d, %d, %d, want %d, %d, %d", one, two, got, place, f, boot, next, e)
	}
	checkLen(t, b, n)
}

// ordinary are boots of each length, and the edges.
var ordinary = []struct {
	boot int
	s    string
}{
	{1, "\x01\x01"}, {2, "\x01\x02"}, {3, "\x01\x03"}, {127, "\x01\x7f"}, {128, "\x01\x80"}, {255, "\x01\xff"},
	{256, "\x02\x01\x00"}, {257, "\x02\x01\x01"}, {300, "\x02\x01\x2c"}, {512, "\x02\x02\x00"}, {1022, "\x02\x03\xfe"}, {api.MaxBoots, "\x02\x03\xff"},
}

// P10.1: boots with their bytes, and back.
func TestOrdinary(t *testing.T) {
	b := start(t, 100)
	// A name stays, and so do the sectors.
	for range 2 {
		for name, c := range ordinary {
			s := checkPut(t, b, c.boot, name)
			if s != filled(c.s+num(name)) || len(s) != api.SectorSize {
				t.Errorf("Put(%d): %x, want it to begin with %x", c.boot, s, c.s)
			}
			checkGet(t, b, s, c.boot, api.OK)
		}
		checkLen(t, b, len(ordinary))
	}
}

// P10.1: names of each length, and the greatest that a book has.
func TestNames(t *testing.T) {
	for _, row := range []struct {
		name int
		s    string
	}{{0, "\x00"}, {1, "\x01\x01"}, {255, "\x01\xff"}, {256, "\x02\x01\x00"}, {257, "\x02\x01\x01"}, {65280, "\x02\xff\x00"}, {api.MaxTerms - 1, "\x02\xff\xff"}} {
		for _, c := range ordinary {
			b := startAt(t, row.name+1, row.name)
			s := checkPut(t, b, c.boot, row.name)
			if s != filled(c.s+row.s) {
				t.Errorf("Put(%d): %x, want the name %x", c.boot, s, row.s)
			}
			checkGet(t, b, s, c.boot, api.OK)
			if row.name > 257 {
				break
			}
		}
	}
}

// P10.1: all boots that there are, there and back; unlike ones have unlike sectors.
func TestBack(t *testing.T) {
	b := startAt(t, 2000, 10)
	seen := map[string]int{}
	for boot := 1; boot <= api.MaxBoots; boot++ {
		s := checkPut(t, b, boot, 9+boot)
		checkGet(t, b, s, boot, api.OK)
		if other, is := seen[s]; is {
			t.Errorf("Put(%d), Put(%d): %x", boot, other, s)
		}
		seen[s] = boot
	}
	checkLen(t, b, 10+api.MaxBoots)
	for s, boot := range seen {
		checkGet(t, b, s, boot, api.OK)
		if again, e := Put(b, boot); again != s || e != api.OK {
			t.Errorf("Put(%d) again: %x, %d, want %x", boot, again, e, s)
		}
	}
	checkLen(t, b, 10+api.MaxBoots)
}

// noBoots are numbers that no boot has.
var noBoots = []int{
	0, -1, -2, -255, -256, -api.MaxBoots, math.MinInt32, math.MinInt, api.MaxBoots + 1, api.MaxBoots + 2, 2048, 65535, 65536,
	api.MaxNum, api.MaxNum + 1, math.MaxInt32, 1 << 32, 1<<32 + 1, 1<<32 + api.MaxBoots, math.MaxInt,
}

// P10.1: boots from 1 to MaxBoots alone.
func TestNoBoots(t *testing.T) {
	b := start(t, 100)
	for _, boot := range noBoots {
		checkNoPut(t, b, boot)
	}
	checkLen(t, b, 0)
	// What was refused is not named ahead of what is not.
	checkPut(t, b, api.MaxBoots, 0)
	for _, boot := range noBoots {
		checkNoPut(t, b, boot)
	}
	checkPut(t, b, 1, 1)
	checkLen(t, b, 2)
}

// P10.1: a number of no boot is refused, though its hash have a name and the book room.
func TestNoBootsNamed(t *testing.T) {
	b := start(t, 100)
	for _, boot := range noBoots {
		if boot >= 0 && boot <= api.MaxNum {
			name := hash(t, b, "super"+num(boot))
			checkNoPut(t, b, boot)
			checkNoGet(t, b, filled(num(boot)+num(name)))
		}
	}
}

// P10.1: a book that is full refuses what it has not, and names what it has.
func TestFull(t *testing.T) {
	for _, most := range []int{1, 2, 3, 256, 257} {
		b := startAt(t, most, most-1)
		s := checkPut(t, b, 300, most-1)
		for _, c := range ordinary {
			if c.boot != 300 {
				checkNoPut(t, b, c.boot)
				checkNoGet(t, b, filled(c.s+num(most-1)))
			}
		}
		checkNoPut(t, b, 0)
		checkPut(t, b, 300, most-1)
		checkGet(t, b, s, 300, api.OK)
		checkPick(t, b, filled(""), s, 300, 0, api.OK)
		checkLen(t, b, most)
	}
}

// P10.1: the greatest book, full of other terms.
func TestGreatest(t *testing.T) {
	b := startAt(t, api.MaxTerms, api.MaxTerms)
	for _, c := range ordinary {
		checkNoPut(t, b, c.boot)
		for _, name := range []int{0, 1, api.MaxTerms - 1, api.MaxTerms, api.MaxNum} {
			checkNoGet(t, b, filled(c.s+num(name)))
		}
	}
}

// P10.1: a book with the longest term of all, in a row with a boot's.
func TestLongest(t *testing.T) {
	b := start(t, 3)
	long := "Hsuper\x01\x01" + strings.Repeat("\x00", api.MaxTerm-8)
	if _, e := b.Name(long); e != api.OK {
		t.Fatal(e)
	}
	checkNoGet(t, b, filled(num(1)+num(0)))
	s := checkPut(t, b, 1, 1)
	checkNoGet(t, b, filled(num(1)+num(0)))
	checkGet(t, b, s, 1, api.OK)
	if _, e := b.Name("x" + long[1:]); e != api.OK {
		t.Fatal(e)
	}
	checkNoPut(t, b, 2)
	checkGet(t, b, s, 1, api.OK)
}

// P10.1: a hash that stands in the book already, whoever made it, keeps its name.
func TestMade(t *testing.T) {
	b := startAt(t, 100, 5)
	for k, c := range ordinary {
		// What was asked ahead of it is not named by that.
		checkNoGet(t, b, filled(c.s+num(5+k)))
		if name := hash(t, b, "super"+c.s); name != 5+k {
			t.Fatalf("Hash: %d", name)
		}
		checkGet(t, b, filled(c.s+num(5+k)), c.boot, api.OK)
		checkPut(t, b, c.boot, 5+k)
		checkLen(t, b, 6+k)
	}
}

// P10.1, P10.2 with R3 and R6: a nil book, told ahead of what else is wrong.
func TestNil(t *testing.T) {
	b := start(t, 100)
	sectors := []string{"", "x", filled(""), strings.Repeat("\xff", api.SectorSize)}
	for name, c := range ordinary {
		sectors = append(sectors, checkPut(t, b, c.boot, name))
		if s, e := Put(nil, c.boot); s != "" || e != api.ErrNil {
			t.Errorf("Put(%d): %x, %d, want ErrNil", c.boot, s, e)
		}
	}
	for _, boot := range noBoots {
		if s, e := Put(nil, boot); s != "" || e != api.ErrNil {
			t.Errorf("Put(%d): %x, %d, want ErrNil", boot, s, e)
		}
	}
	for _, one := range sectors {
		if boot, e := Get(nil, one); boot != 0 || e != api.ErrNil {
			t.Errorf("Get(%x): %d, %d, want ErrNil", one, boot, e)
		}
		for _, two := range sectors {
			if boot, next, e := Pick(nil, one, two); boot != 0 || next != 0 || e != api.ErrNil {
				t.Errorf("Pick(%x, %x): %d, %d, %d, want ErrNil", one, two, boot, next, e)
			}
		}
	}
}

// P10.1, P10.2 with R1: a book that layer 2 did not make has no terms and names none.
func TestUnmade(t *testing.T) {
	b := new(book.Book)
	for _, c := range ordinary {
		checkNoPut(t, b, c.boot)
		checkNoGet(t, b, filled(c.s+num(0)))
	}
}

// puts gives a book with the ordinary boots, and what each of their sectors is of.
func puts(t *testing.T) (*book.Book, map[string]int) {
	t.Helper()
	b := startAt(t, 1000, 250)
	sectors := map[string]int{}
	for k, c := range ordinary {
		sectors[checkPut(t, b, c.boot, 250+k)] = c.boot
	}
	return b, sectors
}

// checkOne tells that s is taken if it is one of the sectors, and else not.
func checkOne(t *testing.T, b *book.Book, sectors map[string]int, s string) {
	t.Helper()
	if boot, is := sectors[s]; is {
		checkGet(t, b, s, boot, api.OK)
		return
	}
	checkNoGet(t, b, s)
}

// P10.1: texts that have not SectorSize bytes.
func TestLengths(t *testing.T) {
	b, sectors := puts(t)
	for s := range sectors {
		for k := range api.SectorSize {
			checkNoGet(t, b, s[:k])
			checkNoGet(t, b, s[k+1:])
		}
		for _, more := range []string{"\x00", "\x01", "\xff", s, filled(""), strings.Repeat("\x00", 1<<16)} {
			checkNoGet(t, b, s+more)
			checkNoGet(t, b, more+s)
		}
	}
	for _, n := range []int{0, 1, 63, 64, 65, 128, 1 << 20} {
		for _, c := range []string{"\x00", "\x01", "\x04", "\xff"} {
			checkNoGet(t, b, strings.Repeat(c, n))
		}
	}
}

// P10.1: each byte of a sector turned into each other, and two of them at a time.
func TestTurned(t *testing.T) {
	b, sectors := puts(t)
	for s := range sectors {
		for k := range len(s) {
			x := []byte(s)
			for c := range 256 {
				x[k] = byte(c)
				checkOne(t, b, sectors, string(x))
			}
			for m := range k {
				x := []byte(s)
				x[k]++
				x[m]--
				checkOne(t, b, sectors, string(x))
			}
		}
	}
}

// P10.1: a byte left out, or one more, at each place, with as many bytes as before.
func TestMoved(t *testing.T) {
	b, sectors := puts(t)
	for s := range sectors {
		for k := range len(s) {
			checkOne(t, b, sectors, s[:k]+s[k+1:]+"\x00")
			for _, c := range []string{"\x00", "\x01", "\xff"} {
				checkOne(t, b, sectors, s[:k]+c+s[k:len(s)-1])
			}
		}
	}
}

// P10.1: behind the name all is zero.
func TestBehind(t *testing.T) {
	b, sectors := puts(t)
	for k, c := range ordinary {
		s := c.s + num(250+k)
		for n := len(s); n < api.SectorSize; n++ {
			for c := 1; c < 256; c++ {
				checkNoGet(t, b, filled(s+strings.Repeat("\x00", n-len(s))+string([]byte{byte(c)})))
			}
		}
		checkNoGet(t, b, s+strings.Repeat("\x01", api.SectorSize-len(s)))
		checkNoGet(t, b, s+strings.Repeat(" ", api.SectorSize-len(s)))
		checkOne(t, b, sectors, filled(s))
	}
}

// P10.1: a sector that is all zeros is none, though there be a hash of the name 0.
func TestZeros(t *testing.T) {
	for _, text := range []string{"super\x01\x01", "super", "super\x00", "super\x00\x00", "super" + filled(""), ""} {
		b := start(t, 100)
		checkNoGet(t, b, filled(""))
		hash(t, b, text)
		checkNoGet(t, b, filled(""))
		checkPut(t, b, 2, 1)
		checkNoGet(t, b, filled(""))
	}
}

// P10.1: a sector that is torn at each place over zeros, over other bytes, and over each of the others.
func TestTorn(t *testing.T) {
	b, sectors := puts(t)
	below := []string{filled(""), strings.Repeat("\x01", api.SectorSize), strings.Repeat("\xff", api.SectorSize)}
	for s := range sectors {
		below = append(below, s)
	}
	for s, boot := range sectors {
		end := len(strings.TrimRight(s, "\x00"))
		for k := range api.SectorSize + 1 {
			for _, low := range below {
				checkOne(t, b, sectors, s[:k]+low[k:])
				checkOne(t, b, sectors, low[:k]+s[k:])
			}
			// Over zeros it is the boot from its last byte on that is not 0, and none ahead of that.
			if _, is := sectors[s[:k]+filled("")[k:]]; is != (k >= end) {
				t.Errorf("torn %d at %d: %v", boot, k, is)
			}
		}
	}
}

// P10.1: the name behind a boot is that of its own hash alone.
func TestOthersNames(t *testing.T) {
	b, sectors := puts(t)
	for _, c := range ordinary {
		// What is not the hash of the word and the boot.
		for _, text := range []string{
			c.s, "record" + c.s, "Super" + c.s, "super " + c.s, "supe" + c.s, c.s + "super", "supersuper" + c.s,
			"super" + c.s + "\x00", "super" + filled(c.s), "super" + c.s[1:], "super" + c.s[:len(c.s)-1], "super", "",
		} {
			hash(t, b, text)
		}
		for _, made := range []func() (int, api.Errno){
			func() (int, api.Errno) { return craft.Atom(b, "super"+c.s) },
			func() (int, api.Errno) { return craft.Mac(b, 0, "super"+c.s) },
			func() (int, api.Errno) { return craft.Mac(b, c.boot, "super") },
			func() (int, api.Errno) { return craft.Seal(b, 0, "super"+c.s) },
			func() (int, api.Errno) { return b.Name("super" + c.s) },
			func() (int, api.Errno) { return b.Name("HH" + "super" + c.s) },
		} {
			if _, e := made(); e != api.OK {
				t.Fatal(e)
			}
		}
	}
	for _, c := range ordinary {
		for name := range b.Len() + 2 {
			checkOne(t, b, sectors, filled(c.s+num(name)))
		}
		for _, name := range []int{api.MaxTerms - 1, api.MaxTerms, api.MaxNum} {
			checkNoGet(t, b, filled(c.s+num(name)))
		}
		// A boot without a name.
		checkNoGet(t, b, filled(c.s))
	}
}

// P10.1: boots whose hash stands in the book, and which are none that Put gives.
func TestForged(t *testing.T) {
	b := startAt(t, 1000, 3)
	for _, body := range []string{
		// Boots that may not be, or whose bytes are no number's.
		"\x00", "\x01\x00", "\x02\x00\x01", "\x02\x00\x00", "\x03\x00\x03\xff", "\x04\x00\x00\x00\x01", "\x02\x04\x00", "\x03\x01\x00\x00",
		"\x04\x3f\xff\xff\xff", "\x04\x40\x00\x00\x00", "\x04\xff\xff\xff\xff", "\x05\x00\x00\x00\x00\x01", "\x05\x01\x01\x01\x01\x01", "\xff",
		// More behind a boot, or ahead of it.
		"", "\x01\x01\x00", "\x01\x01\x01\x01", "\x01\x01\x01\x02", "\x00\x01\x01",
	} {
		name := hash(t, b, "super"+body)
		checkNoGet(t, b, filled(body+num(name)))
		checkNoGet(t, b, filled(num(name)+body))
	}
	// What is right but for its name's bytes.
	name := hash(t, b, "super\x01\x01")
	checkGet(t, b, filled("\x01\x01"+num(name)), 1, api.OK)
	checkNoGet(t, b, filled("\x01\x01"+"\x02\x00"+num(name)[1:]))
	checkNoGet(t, b, filled("\x01\x01"+"\x03\x00\x00"+num(name)[1:]))
	checkNoGet(t, b, filled("\x01\x01"+"\x04\x00\x00\x00"+num(name)[1:]))
	checkNoGet(t, b, filled("\x01\x01"+num(name)[1:]))
	checkNoGet(t, b, filled("\x01\x01"+"\x00"+num(name)))
	checkNoGet(t, b, filled("\x01\x01"+"\x05"+num(name)))
	checkNoGet(t, b, filled(num(name)+"\x01\x01"))
}

// P10.1: a sector that ends within the boot or the name.
func TestCut(t *testing.T) {
	b := start(t, 100)
	for _, c := range ordinary {
		whole := c.s + num(hash(t, b, "super"+c.s))
		for k := range len(whole) + 1 {
			// The cut is at the sector's end, so that no zeros stand in for what is missing.
			checkNoGet(t, b, strings.Repeat("\x00", api.SectorSize-k)+whole[:k])
			checkNoGet(t, b, strings.Repeat("\x01", api.SectorSize-k)+whole[:k])
			checkNoGet(t, b, whole[:k])
		}
	}
	for _, s := range []string{"\x01", "\x02\x01", "\x04", "\x01\x01\x01", "\x01\x01\x04\x01\x01\x01", "\x01\x01\x05", "\x05"} {
		checkNoGet(t, b, s)
	}
}

// P10.1: a record's sector is no boot's, and a boot's no record's.
func TestRecords(t *testing.T) {
	b := start(t, 1000)
	checkPut(t, b, 1, 0)
	checkPut(t, b, 2, 1)
	for seq := 1; seq < 4; seq++ {
		for boot := 1; boot < 4; boot++ {
			for prev := range 3 {
				r := api.Record{Seq: seq, Boot: boot, Prev: prev, Event: api.Event{Kind: api.EvRotate}}
				s, _, e := record.Put(b, r)
				if e != api.OK {
					t.Fatal(e)
				}
				checkNoGet(t, b, s)
			}
		}
	}
	for boot := range 2 {
		s := checkPut(t, b, 1+boot, boot)
		if _, _, e := record.Get(b, s, 1+boot, 0); e != api.ErrRecordForm {
			t.Errorf("a record of the boot %d: %d", 1+boot, e)
		}
	}
}

// P10.1 with R5: one book's boots are not another's.
func TestBooks(t *testing.T) {
	one, two := start(t, 10), start(t, 10)
	s := checkPut(t, one, 1, 0)
	checkNoGet(t, two, s)
	other := checkPut(t, two, 2, 0)
	checkNoGet(t, two, s)
	checkNoGet(t, one, other)
	checkPut(t, two, 1, 1)
	checkNoGet(t, two, s)
	checkGet(t, one, s, 1, api.OK)
	checkPick(t, one, other, s, 1, 0, api.OK)
	checkPick(t, two, other, s, 2, 1, api.OK)
}

// P10.1: whatever is taken is put again, byte for byte.
func TestAgain(t *testing.T) {
	x := rand.New(rand.NewSource(10))
	b := start(t, api.MaxTerms)
	taken := 0
	for range 50000 {
		body := num(x.Intn(1<<12) >> x.Intn(13))
		name := hash(t, b, "super"+body)
		s := filled(body + num(name+x.Intn(8)/7) + []string{"", "", "", "\x00", "\x01"}[x.Intn(5)])
		boot, e := Get(b, s)
		if e != api.OK {
			continue
		}
		taken++
		if again, e := Put(b, boot); again != s || e != api.OK {
			t.Errorf("Put(%d): %x, %d, want %x", boot, again, e, s)
		}
	}
	if taken == 0 {
		t.Error("none is taken")
	}
}

// P10.2: both slots taken, in each order, with unlike boots and with like ones.
func TestPick(t *testing.T) {
	b, sectors := puts(t)
	for one, x := range sectors {
		for two, y := range sectors {
			if x < y {
				checkPick(t, b, one, two, y, 0, api.OK)
			} else {
				checkPick(t, b, one, two, x, 1, api.OK)
			}
		}
	}
}

// P10.2: boots next to each other, and far from each other, of all that there are.
func TestPickAll(t *testing.T) {
	b := start(t, 2000)
	var all []string
	for name := range api.MaxBoots {
		all = append(all, checkPut(t, b, 1+name, name))
	}
	first, last := all[0], all[api.MaxBoots-1]
	for k, s := range all {
		checkPick(t, b, s, s, 1+k, 1, api.OK)
		if k > 0 {
			checkPick(t, b, all[k-1], s, 1+k, 0, api.OK)
			checkPick(t, b, s, all[k-1], 1+k, 1, api.OK)
			checkPick(t, b, first, s, 1+k, 0, api.OK)
			checkPick(t, b, s, first, 1+k, 1, api.OK)
		}
		if k < api.MaxBoots-1 {
			checkPick(t, b, last, s, api.MaxBoots, 1, api.OK)
			checkPick(t, b, s, last, api.MaxBoots, 0, api.OK)
		}
	}
}

// refused are sectors that Get refuses, in the book of puts.
func refused(t *testing.T, b *book.Book, s string) []string {
	t.Helper()
	r, _, e := record.Put(b, api.Record{Seq: 1, Boot: 1, Event: api.Event{Kind: api.EvBoot}})
	if e != api.OK {
		t.Fatal(e)
	}
	beyond := num(api.MaxBoots + 1)
	return []string{
		"", filled(""), strings.Repeat("\xff", api.SectorSize), s[:63], s + "\x00", s[1:], s[:63] + "\x01", s[:2], r,
		filled(num(1) + num(0)), filled(num(1) + num(251)), filled(num(0) + num(250)),
		filled(beyond + num(hash(t, b, "super"+beyond))), filled(num(0) + num(hash(t, b, "super"+num(0)))),
	}
}

// P10.2: one slot alone taken, or none.
func TestPickOne(t *testing.T) {
	b, sectors := puts(t)
	for s, boot := range sectors {
		all := refused(t, b, s)
		for _, bad := range all {
			checkPick(t, b, s, bad, boot, 1, api.OK)
			checkPick(t, b, bad, s, boot, 0, api.OK)
			for _, other := range all {
				checkPick(t, b, bad, other, 0, 0, api.ErrSuperNone)
			}
		}
	}
}

// P10.2: a slot that is turned at each place leaves the other one, though its boot be less.
func TestPickTurned(t *testing.T) {
	b, sectors := puts(t)
	for one, x := range sectors {
		for two := range sectors {
			for k := range api.SectorSize {
				turned := two[:k] + string([]byte{two[k] ^ 0x80}) + two[k+1:]
				if _, is := sectors[turned]; is {
					continue
				}
				checkPick(t, b, one, turned, x, 1, api.OK)
				checkPick(t, b, turned, one, x, 0, api.OK)
			}
		}
	}
}

// slots gives what stands in both slots of a disk.
func slots(t *testing.T, d *disk.Disk) (string, string) {
	t.Helper()
	one, e := d.Read(0)
	two, f := d.Read(1)
	if e != api.OK || f != api.OK {
		t.Fatal(e, f)
	}
	return one, two
}

// next writes the boot behind the one that stands, and tells what stood ahead.
func next(t *testing.T, b *book.Book, d *disk.Disk) int {
	t.Helper()
	one, two := slots(t, d)
	boot, place, e := Pick(b, one, two)
	if e != api.OK && (e != api.ErrSuperNone || boot != 0 || place != 0) {
		t.Fatalf("Pick: %d, %d, %d", boot, place, e)
	}
	s, e := Put(b, boot+1)
	if e != api.OK {
		t.Fatalf("Put(%d): %d", boot+1, e)
	}
	if e := d.Write(place, s); e != api.OK {
		t.Fatal(e)
	}
	return boot
}

// P10.2 (T2): of a crash at any write, torn anywhere, the boot ahead is left, or the new one is there; it is never less.
func TestCrashes(t *testing.T) {
	b := start(t, 2000)
	d, e := disk.New(2)
	if e != api.OK {
		t.Fatal(e)
	}
	for row := range 800 {
		had := next(t, b, d)
		torn := row % (api.SectorSize + 1)
		mask := row / (api.SectorSize + 1) % 2
		if e := d.Crash(mask, torn); e != api.OK {
			t.Fatal(e)
		}
		if e := d.Restart(); e != api.OK {
			t.Fatal(e)
		}
		one, two := slots(t, d)
		boot, _, e := Pick(b, one, two)
		whole := mask == 1 || torn == api.SectorSize
		if whole && (boot != had+1 || e != api.OK) || boot != had && boot != had+1 || had > 0 && e != api.OK {
			t.Fatalf("behind the boot %d, mask %d, torn %d: %d, %d", had, mask, torn, boot, e)
		}
	}
}

// P10.2: all boots in a row, each written over the one ahead of the last, up to the greatest.
func TestRow(t *testing.T) {
	b := start(t, 2000)
	d, e := disk.New(2)
	if e != api.OK {
		t.Fatal(e)
	}
	for boot := 1; boot <= api.MaxBoots; boot++ {
		if had := next(t, b, d); had != boot-1 {
			t.Fatalf("ahead of the boot %d: %d", boot, had)
		}
		one, two := slots(t, d)
		// The first one stands in the slot 0, and each other where the last does not.
		checkPick(t, b, one, two, boot, boot%2, api.OK)
		mine, ahead := one, two
		if boot%2 == 0 {
			mine, ahead = two, one
		}
		checkGet(t, b, mine, boot, api.OK)
		if boot > 1 {
			checkGet(t, b, ahead, boot-1, api.OK)
		}
	}
	checkNoPut(t, b, api.MaxBoots+1)
}

// P10.1 with R4: two answers share no memory.
func TestMemory(t *testing.T) {
	b := start(t, 10)
	one, e := Put(b, 300)
	two, f := Put(b, 300)
	if e != api.OK || f != api.OK || one != two {
		t.Fatal(e, f)
	}
	if unsafe.StringData(one) == unsafe.StringData(two) {
		t.Error("Put: shared memory")
	}
}

// P10.1, P10.2 with R5: several goroutines at one time, each with a book.
func TestAtOneTime(t *testing.T) {
	var all sync.WaitGroup
	for k := range 8 {
		b := startAt(t, 100, k)
		all.Go(func() {
			had := filled("")
			for name, c := range ordinary {
				s := checkPut(t, b, c.boot, k+name)
				checkGet(t, b, s, c.boot, api.OK)
				checkPick(t, b, had, s, c.boot, 0, api.OK)
				checkPick(t, b, s, had, c.boot, 1, api.OK)
				had = s
			}
		})
	}
	all.Wait()
}
