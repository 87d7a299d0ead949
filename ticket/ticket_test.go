package ticket

import (
	"errors"
	"math"
	"math/rand"
	"slices"
	"strings"
	"sync"
	"testing"

	"bastion/api"
	"bastion/book"
	"bastion/craft"
	"bastion/ring"
)

// noNumbers are below 0 or above MaxNum; the last ones, cut to fewer bits, would be numbers that may be.
var noNumbers = []int{
	-1, -2, -7, -255, -256, -api.MaxNum, -api.MaxNum - 1, math.MinInt32, math.MinInt, math.MinInt + 1,
	api.MaxNum + 1, api.MaxNum + 2, math.MaxInt32, math.MaxInt32 + 1, math.MaxInt - 1, math.MaxInt, 1 << 32, 1<<32 + 3, -1<<32 + 3, math.MinInt + 3,
}

// some is a body whose numbers are all unlike.
var some = api.Body{User: 3, Gen: 7, Expires: 300, Session: 70000, Key: 20}

// num gives a number's bytes, by layer 1's words.
func num(x int) string {
	out := ""
	for ; x > 0; x /= 256 {
		out = string([]byte{byte(x % 256)}) + out
	}
	return string([]byte{byte(len(out))}) + out
}

// bytesOf gives a body's bytes, by the chapter's words.
func bytesOf(x api.Body) string {
	return num(x.User) + num(x.Gen) + num(x.Expires) + num(x.Session) + num(x.Key)
}

// keyTerm gives the bytes of an epoch's key, by layer 14's words.
func keyTerm(epoch int) string {
	return "Aepoch" + num(epoch)
}

// sealTerm gives the bytes of a seal, by layer 3's words.
func sealTerm(key int, s string) string {
	return "S" + num(key) + s
}

// start gives a book of at most so many terms.
func start(t *testing.T, most int) *book.Book {
	t.Helper()
	b, e := book.New(most)
	if b == nil || e != api.OK {
		t.Fatalf("New(%d): %d", most, e)
	}
	return b
}

// named names terms straight in a book, and gives the last one's name.
func named(t *testing.T, b *book.Book, row ...string) int {
	t.Helper()
	name := 0
	for _, s := range row {
		own, e := b.Name(s)
		if e != api.OK {
			t.Fatalf("Name(%q): %d", s, e)
		}
		name = own
	}
	return name
}

// terms gives a book's row.
func terms(b *book.Book) []string {
	row := make([]string, b.Len())
	for name := range row {
		row[name], _ = b.Term(name)
	}
	return row
}

// checkTerms tells that a book holds just those terms, in their row.
func checkTerms(t *testing.T, b *book.Book, row ...string) {
	t.Helper()
	if got := terms(b); !slices.Equal(got, row) {
		t.Errorf("terms: %q, want %q", got, row)
	}
}

// checkPut tells that a body's ticket has that name.
func checkPut(t *testing.T, b *book.Book, epoch int, x api.Body, tag int) {
	t.Helper()
	if got, e := Put(b, epoch, x); got != tag || e != api.OK {
		t.Errorf("Put(%d, %v): %d, %d, want %d", epoch, x, got, e, tag)
	}
}

// checkNoPut tells that a ticket is refused, and that the book is as it was, but for the terms that are told.
func checkNoPut(t *testing.T, b *book.Book, epoch int, x api.Body, stays ...string) {
	t.Helper()
	row := append(terms(b), stays...)
	if tag, e := Put(b, epoch, x); tag != 0 || e != api.ErrTicketForm {
		t.Errorf("Put(%d, %v): %d, %d, want ErrTicketForm", epoch, x, tag, e)
	}
	checkTerms(t, b, row...)
}

// checkGet tells that a tag opens to that body, and that nothing is named.
func checkGet(t *testing.T, b *book.Book, now, keep, tag int, x api.Body) {
	t.Helper()
	n := b.Len()
	if got, e := Get(b, now, keep, tag); got != x || e != api.OK {
		t.Errorf("Get(%d, %d, %d): %v, %d, want %v", now, keep, tag, got, e, x)
	}
	if b.Len() != n {
		t.Errorf("Get(%d, %d, %d): %d terms, want %d", now, keep, tag, b.Len(), n)
	}
}

// checkNoGet tells that there is no body, for that error, and that nothing is named.
func checkNoGet(t *testing.T, b *book.Book, now, keep, tag int, want api.Errno) {
	t.Helper()
	n := b.Len()
	if x, e := Get(b, now, keep, tag); x != (api.Body{}) || e != want {
		t.Errorf("Get(%d, %d, %d): %v, %d, want %d", now, keep, tag, x, e, want)
	}
	if b.Len() != n {
		t.Errorf("Get(%d, %d, %d): %d terms, want %d", now, keep, tag, b.Len(), n)
	}
}

// with gives some, with one of its numbers as it is told.
func with(place, x int) api.Body {
	out := some
	*[]*int{&out.User, &out.Gen, &out.Expires, &out.Session, &out.Key}[place] = x
	return out
}

// P15.1: a ticket is the seal of an epoch's key, which is named ahead of it, over a body's five numbers in their row.
func TestPut(t *testing.T) {
	b := start(t, 100)
	checkPut(t, b, 5, some, 1)
	checkTerms(t, b, "Aepoch\x01\x05", "S\x00\x01\x03\x01\x07\x02\x01\x2c\x03\x01\x11\x70\x01\x14")
	checkPut(t, b, 300, api.Body{}, 3)
	checkPut(t, b, 0, api.Body{User: 7, Gen: api.MaxNum, Expires: api.MaxNum, Session: api.MaxNum, Key: api.MaxNum}, 5)
	most := "\x04\x3f\xff\xff\xff"
	want := []string{
		"Aepoch\x01\x05", "S\x00\x01\x03\x01\x07\x02\x01\x2c\x03\x01\x11\x70\x01\x14",
		"Aepoch\x02\x01\x2c", "S\x01\x02\x00\x00\x00\x00\x00",
		"Aepoch\x00", "S\x01\x04\x01\x07" + most + most + most + most,
	}
	checkTerms(t, b, want...)
	// Made again, each has the name that it has.
	checkPut(t, b, 5, some, 1)
	checkPut(t, b, 300, api.Body{}, 3)
	checkTerms(t, b, want...)
	// An epoch's key is made once.
	checkPut(t, b, 5, api.Body{}, 6)
	checkTerms(t, b, append(want, "S\x00\x00\x00\x00\x00\x00")...)
}

// P15.1: a ticket is what layers 14 and 3 make of it.
func TestLayers(t *testing.T) {
	b := start(t, 100)
	key, e := ring.Key(b, 9)
	if e != api.OK {
		t.Fatal(e)
	}
	tag, e := craft.Seal(b, key, bytesOf(some))
	if e != api.OK {
		t.Fatal(e)
	}
	checkPut(t, b, 9, some, tag)
	checkGet(t, b, 9, 0, tag, some)
	checkPut(t, b, 10, some, tag+2)
	key, _ = ring.Key(b, 10)
	if s, e := craft.Open(b, key, tag+2); s != bytesOf(some) || e != api.OK {
		t.Errorf("Open: %q, %d", s, e)
	}
}

// P15.1: what Put seals Get opens, as long as its epoch lives, and no longer.
func TestThereAndBack(t *testing.T) {
	b := start(t, 100)
	tags := []int{}
	for epoch := range 9 {
		x := api.Body{User: epoch % api.MaxUsers, Gen: epoch, Expires: 256 * epoch, Session: 9 - epoch, Key: 5}
		tag, e := Put(b, epoch, x)
		if e != api.OK {
			t.Fatal(e)
		}
		tags = append(tags, tag)
	}
	for now := range 20 {
		for keep := range api.MaxKeep + 1 {
			for epoch, tag := range tags {
				x := api.Body{User: epoch % api.MaxUsers, Gen: epoch, Expires: 256 * epoch, Session: 9 - epoch, Key: 5}
				if epoch <= now && epoch >= now-keep {
					checkGet(t, b, now, keep, tag, x)
				} else {
					checkNoGet(t, b, now, keep, tag, api.ErrTicketOpen)
				}
			}
		}
	}
}

// P15.1: a ticket of one epoch, at each now and keep about it; the keys of the others are named, or are not.
func TestLives(t *testing.T) {
	for _, all := range []bool{false, true} {
		for _, epoch := range []int{0, 1, 2, 3, 4, 5, 6, 100, 255, 256, 65535, 65536, api.MaxNum - 5, api.MaxNum - 1, api.MaxNum} {
			b := start(t, 100)
			checkPut(t, b, epoch, some, 1)
			for now := max(0, epoch-6); now <= min(api.MaxNum, epoch+6); now++ {
				if all {
					named(t, b, keyTerm(now))
				}
				for keep := range api.MaxKeep + 1 {
					if epoch <= now && now-epoch <= keep {
						checkGet(t, b, now, keep, 1, some)
					} else {
						checkNoGet(t, b, now, keep, 1, api.ErrTicketOpen)
					}
				}
			}
		}
	}
}

// P15.1 with T4: unlike bodies and unlike epochs have unlike tickets, and the same have the same.
func TestUnlike(t *testing.T) {
	bodies := []api.Body{{}, some}
	for place := range 5 {
		for _, x := range []int{0, 1, 2, 4, 5} {
			bodies = append(bodies, with(place, x))
		}
		for _, x := range []int{255, 256, 257, api.MaxNum - 1, api.MaxNum} {
			if place > 0 {
				bodies = append(bodies, with(place, x))
			}
		}
	}
	b := start(t, 1000)
	tags := map[int]struct{}{}
	for epoch := range 5 {
		for _, x := range bodies {
			tag, e := Put(b, epoch, x)
			if _, is := tags[tag]; is || e != api.OK {
				t.Errorf("Put(%d, %v): %d, %d: another's", epoch, x, tag, e)
			}
			tags[tag] = struct{}{}
			checkPut(t, b, epoch, x, tag)
			checkGet(t, b, epoch, 0, tag, x)
			checkNoGet(t, b, epoch+1, 0, tag, api.ErrTicketOpen)
		}
	}
	if b.Len() != 5+5*len(bodies) {
		t.Errorf("%d terms of %d bodies", b.Len(), len(bodies))
	}
}

// P15.1: each number of a body at its edges, and beyond; what may not be names no key either.
func TestBody(t *testing.T) {
	b := start(t, 1000)
	for place := range 5 {
		most := api.MaxNum
		if place == 0 {
			most = api.MaxUsers - 1
		}
		for _, x := range []int{0, 1, most - 1, most} {
			tag, e := Put(b, 7, with(place, x))
			if e != api.OK {
				t.Fatalf("Put(7, %v): %d", with(place, x), e)
			}
			checkGet(t, b, 7, 0, tag, with(place, x))
		}
		for _, x := range append([]int{most + 1, most + 2}, noNumbers...) {
			checkNoPut(t, b, 7, with(place, x))
			checkNoPut(t, b, 8, with(place, x))
			checkNoPut(t, start(t, 2), 7, with(place, x))
		}
	}
	for _, user := range []int{api.MaxUsers, api.MaxUsers + 1, 255, 256, 1 << 8, 1 << 16, api.MaxNum} {
		checkNoPut(t, b, 7, with(0, user))
	}
	// Several that may not be, at once.
	checkNoPut(t, b, 7, api.Body{User: -1, Gen: -1, Expires: -1, Session: -1, Key: -1})
	checkNoPut(t, b, 7, api.Body{User: api.MaxUsers, Gen: api.MaxNum + 1})
	checkNoPut(t, b, 9, api.Body{User: 1, Session: math.MinInt, Key: math.MaxInt})
}

// P15.1: an epoch is from 0 to MaxNum.
func TestEpoch(t *testing.T) {
	b := start(t, 100)
	for k, epoch := range []int{0, 1, 255, 256, api.MaxNum - 1, api.MaxNum} {
		checkPut(t, b, epoch, some, 2*k+1)
		checkGet(t, b, epoch, 0, 2*k+1, some)
	}
	for _, epoch := range noNumbers {
		checkNoPut(t, b, epoch, some)
		checkNoPut(t, b, epoch, api.Body{})
		checkNoPut(t, b, epoch, with(0, -1))
	}
}

// P15.1: now is from 0 to MaxNum, and keep from 0 to MaxKeep, whatever the tag is.
func TestNowAndKeep(t *testing.T) {
	b := start(t, 100)
	checkPut(t, b, 0, some, 1)
	checkPut(t, b, api.MaxNum, some, 3)
	for _, tag := range []int{0, 1, 2, 3, 4, -1, math.MaxInt} {
		for _, no := range noNumbers {
			for keep := range api.MaxKeep + 1 {
				checkNoGet(t, b, no, keep, tag, api.ErrTicketForm)
			}
			for _, now := range []int{0, 1, 4, api.MaxNum} {
				checkNoGet(t, b, now, no, tag, api.ErrTicketForm)
			}
			checkNoGet(t, b, no, no, tag, api.ErrTicketForm)
		}
		for _, keep := range []int{api.MaxKeep + 1, api.MaxKeep + 2, 255, 256, 1 << 8, api.MaxNum} {
			checkNoGet(t, b, 0, keep, tag, api.ErrTicketForm)
			checkNoGet(t, b, api.MaxNum, keep, tag, api.ErrTicketForm)
		}
	}
	checkGet(t, b, 0, 0, 1, some)
	checkGet(t, b, 0, api.MaxKeep, 1, some)
	checkGet(t, b, api.MaxKeep, api.MaxKeep, 1, some)
	checkNoGet(t, b, api.MaxKeep+1, api.MaxKeep, 1, api.ErrTicketOpen)
	checkGet(t, b, api.MaxNum, 0, 3, some)
	checkGet(t, b, api.MaxNum, api.MaxKeep, 3, some)
	checkNoGet(t, b, api.MaxNum-1, api.MaxKeep, 3, api.ErrTicketOpen)
}

// P15.1: tags that are no tickets, beside one that is.
func TestNoTickets(t *testing.T) {
	b := start(t, 100)
	checkPut(t, b, 3, some, 1)
	checkPut(t, b, 4, some, 3)
	s := bytesOf(some)
	other := named(t, b, "Aanother")
	tags := []int{
		0, 2, other, -1, -2, math.MinInt, math.MinInt32, math.MaxInt, math.MaxInt32, api.MaxNum, api.MaxNum + 1, api.MaxTerms, 1 << 32, 1<<32 + 1, math.MinInt + 1,
		named(t, b, "A"+num(0)+s), named(t, b, "H"+s), named(t, b, "H"+num(0)+s), named(t, b, "M"+num(0)+s), named(t, b, "M"+num(2)+s),
		named(t, b, sealTerm(other, s)), named(t, b, sealTerm(1, s)), named(t, b, sealTerm(3, s)), named(t, b, sealTerm(99, s)),
		named(t, b, sealTerm(3, s)), named(t, b, sealTerm(4, s)), named(t, b, s), named(t, b, "S"+s), named(t, b, "s"+num(0)+s), named(t, b, num(0)+s),
		named(t, b, "S\x01\x00"+s), named(t, b, "SAepoch"+num(3)+s), named(t, b, " S\x00"+s),
	}
	tags = append(tags, b.Len(), b.Len()+1)
	for _, tag := range tags {
		for keep := range api.MaxKeep + 1 {
			for now := range 10 {
				checkNoGet(t, b, now, keep, tag, api.ErrTicketOpen)
			}
		}
	}
	checkGet(t, b, 4, 1, 1, some)
	checkGet(t, b, 4, 1, 3, some)
}

// P15.1: a seal of an epoch's key over bytes that are no body opens nothing.
func TestNoBodies(t *testing.T) {
	s := bytesOf(some)
	row := []string{"", "\x00", num(3), num(3) + num(7), num(3) + num(7) + num(300), num(3) + num(7) + num(300) + num(70000), s + "\x00", s + num(20), s + s, s + " ", " " + s, "\x00" + s, "x"}
	for to := range len(s) {
		row = append(row, s[:to])
	}
	// A number in a form that is none, in each place.
	for place := range 5 {
		for _, no := range []string{"\x01\x00", "\x02\x00\x05", "\x04\x00\x00\x00\x01", "\x05\x01\x01\x01\x01\x01", "\x80", "\xff", "\x04\x40\x00\x00\x00", "\x04\xff\xff\xff\xff", "5"} {
			nums := []string{num(3), num(7), num(300), num(70000), num(20)}
			nums[place] = no
			row = append(row, strings.Join(nums, ""))
		}
	}
	// A user that may not be.
	for _, user := range []int{api.MaxUsers, api.MaxUsers + 1, 255, 256, 259, api.MaxNum} {
		row = append(row, num(user)+s[2:])
	}
	row = append(row, strings.Repeat("\x00", 4), strings.Repeat("\x00", 6), strings.Repeat("\x00", 500))
	b := start(t, 1000)
	key := named(t, b, keyTerm(5))
	for _, s := range row {
		tag := named(t, b, sealTerm(key, s))
		for keep := range api.MaxKeep + 1 {
			for now := 5; now <= 5+keep; now++ {
				checkNoGet(t, b, now, keep, tag, api.ErrTicketOpen)
			}
		}
	}
	// The like of these that are a body open, though Put did not make them.
	for _, x := range []api.Body{some, {}, {User: api.MaxUsers - 1}, {Key: api.MaxNum}} {
		checkGet(t, b, 5, 0, named(t, b, sealTerm(key, bytesOf(x))), x)
	}
}

// P15.1 with R3 and R6: a nil book, told ahead of what else is wrong.
func TestNil(t *testing.T) {
	for _, x := range []api.Body{{}, some, {User: -1}, {User: api.MaxUsers}, {Key: api.MaxNum + 1}} {
		for _, epoch := range append([]int{0, 7, api.MaxNum}, noNumbers...) {
			if tag, e := Put(nil, epoch, x); tag != 0 || e != api.ErrNil {
				t.Errorf("Put(nil, %d, %v): %d, %d, want ErrNil", epoch, x, tag, e)
			}
		}
	}
	for _, now := range append([]int{0, 7, api.MaxNum}, noNumbers...) {
		for _, keep := range append([]int{0, api.MaxKeep, api.MaxKeep + 1}, noNumbers...) {
			for _, tag := range []int{-1, 0, 1} {
				if x, e := Get(nil, now, keep, tag); x != (api.Body{}) || e != api.ErrNil {
					t.Errorf("Get(nil, %d, %d, %d): %v, %d, want ErrNil", now, keep, tag, x, e)
				}
			}
		}
	}
}

// P15.1: a full book gives the tickets that it has; where there is room for the key alone, its name stays.
func TestFull(t *testing.T) {
	// Room for nothing.
	b := start(t, 1)
	named(t, b, "x")
	checkNoPut(t, b, 5, some)
	checkNoPut(t, b, 5, some)
	// Room for the key alone.
	b = start(t, 2)
	named(t, b, "x")
	checkNoPut(t, b, 5, some, keyTerm(5))
	checkNoPut(t, b, 5, some)
	checkNoPut(t, b, 6, some)
	checkTerms(t, b, "x", keyTerm(5))
	checkNoGet(t, b, 5, 0, 1, api.ErrTicketOpen)
	// Room for the key alone, but no body that may be: no name is made.
	b = start(t, 1)
	checkNoPut(t, b, 5, with(1, -1))
	checkNoPut(t, b, -1, some)
	checkTerms(t, b)
	// The key alone is there already.
	b = start(t, 1)
	named(t, b, keyTerm(5))
	checkNoPut(t, b, 5, some)
	checkTerms(t, b, keyTerm(5))
	// The key and the seal are there already.
	b = start(t, 2)
	checkPut(t, b, 5, some, 1)
	checkPut(t, b, 5, some, 1)
	checkNoPut(t, b, 5, api.Body{})
	checkNoPut(t, b, 6, some)
	checkPut(t, b, 5, some, 1)
	checkGet(t, b, 7, 2, 1, some)
	checkTerms(t, b, keyTerm(5), sealTerm(0, bytesOf(some)))
	// The seal is there, the key is not: another's name, or none.
	b = start(t, 1)
	named(t, b, sealTerm(1, bytesOf(some)))
	checkNoPut(t, b, 5, some)
	checkNoGet(t, b, 5, 0, 0, api.ErrTicketOpen)
}

// P15.1: asking names nothing, neither in a book that is empty nor where no epoch's key was ever named.
func TestNamesNothing(t *testing.T) {
	b := start(t, 100)
	for now := range 10 {
		for keep := range api.MaxKeep + 1 {
			for tag := range 3 {
				checkNoGet(t, b, now, keep, tag, api.ErrTicketOpen)
			}
		}
	}
	checkTerms(t, b)
	// Seals of keys that are no epoch's, also of one that is named next.
	s := bytesOf(some)
	row := []string{"Aepoch", sealTerm(0, s), sealTerm(1, s), sealTerm(2, s), sealTerm(4, s), sealTerm(5, s)}
	named(t, b, row[:4]...)
	for now := range 10 {
		for tag := range 6 {
			checkNoGet(t, b, now, api.MaxKeep, tag, api.ErrTicketOpen)
		}
	}
	checkTerms(t, b, row[:4]...)
	// As soon as an epoch's key has the name that a seal is of, it opens it.
	named(t, b, row[4], row[5])
	named(t, b, keyTerm(2))
	for tag := range 8 {
		checkNoGet(t, b, 2, 0, tag, api.ErrTicketOpen)
	}
	tag := named(t, b, sealTerm(7, s), sealTerm(6, s))
	checkGet(t, b, 2, 0, tag, some)
	checkNoGet(t, b, 2, 0, tag-1, api.ErrTicketOpen)
	named(t, b, keyTerm(3))
	checkNoGet(t, b, 3, 0, tag-1, api.ErrTicketOpen)
	checkNoGet(t, b, 3, 0, tag, api.ErrTicketOpen)
	checkGet(t, b, 3, 1, tag, some)
}

// P15.1: a seal may stand in the book ahead of its key; it opens as soon as the key is named, by who asks not.
func TestKeyLater(t *testing.T) {
	b := start(t, 100)
	tag := named(t, b, sealTerm(2, bytesOf(some)))
	for now := range 8 {
		checkNoGet(t, b, now, api.MaxKeep, tag, api.ErrTicketOpen)
	}
	named(t, b, "x", keyTerm(6))
	checkGet(t, b, 6, 0, tag, some)
	checkGet(t, b, 7, 1, tag, some)
	checkNoGet(t, b, 5, api.MaxKeep, tag, api.ErrTicketOpen)
	checkPut(t, b, 6, some, tag)
	checkTerms(t, b, sealTerm(2, bytesOf(some)), "x", keyTerm(6))
}

// P15.1: terms that are like an epoch's key are none.
func TestLikeKeys(t *testing.T) {
	s := bytesOf(some)
	for _, like := range []string{"epoch" + num(3), "Hepoch" + num(3), "S\x00epoch" + num(3), "M\x00epoch" + num(3), "Aepoch", "Aepoch3", "Aepoch\x01", "Aepoch" + num(3) + "\x00", "Aepoch\x02\x00\x03", "AEpoch" + num(3), "A" + num(3), "a" + keyTerm(3)} {
		b := start(t, 10)
		named(t, b, like)
		tag := named(t, b, sealTerm(0, s))
		for now := range 10 {
			checkNoGet(t, b, now, api.MaxKeep, tag, api.ErrTicketOpen)
		}
		checkPut(t, b, 3, some, 3)
		checkTerms(t, b, like, sealTerm(0, s), keyTerm(3), sealTerm(2, s))
	}
}

// P15.1: the error within tells what befell which layer beneath.
func TestWithin(t *testing.T) {
	b := start(t, 3)
	checkPut(t, b, 5, some, 1)
	none := named(t, b, sealTerm(0, "\x01"))
	seals := func(epoch int, x api.Body) error {
		_, err := seal(b, epoch, x)
		return err
	}
	finds := func(now, keep, tag int) error {
		_, err := find(b, now, keep, tag)
		return err
	}
	for k, r := range []struct {
		err  error
		want error
	}{
		{seals(5, some), nil}, {seals(5, with(0, api.MaxUsers)), api.ErrTicketForm}, {seals(-1, some), api.ErrRingForm}, {seals(6, some), api.ErrRingForm}, {seals(5, api.Body{}), api.ErrCraftForm},
		{finds(5, 0, 1), nil}, {finds(-1, 0, 1), api.ErrTicketForm}, {finds(5, -1, 1), api.ErrTicketForm}, {finds(7, 1, 1), api.ErrBookNone}, {finds(5, 0, 0), api.ErrCraftOpen}, {finds(5, 0, none), api.ErrFieldCut},
	} {
		if r.want == nil && r.err != nil || !errors.Is(r.err, r.want) {
			t.Errorf("row %d: %v, want %v", k, r.err, r.want)
		}
	}
	if e := errno(nil); e != api.OK {
		t.Errorf("errno(nil): %d", e)
	}
}

// P15.1 with R1: a book that layer 2 did not make has no tickets, and makes none.
func TestUnmade(t *testing.T) {
	b := new(book.Book)
	checkNoPut(t, b, 0, some)
	checkNoPut(t, b, -1, some)
	checkNoPut(t, b, 0, with(0, -1))
	for _, tag := range []int{-1, 0, 1} {
		checkNoGet(t, b, 4, api.MaxKeep, tag, api.ErrTicketOpen)
		checkNoGet(t, b, 4, -1, tag, api.ErrTicketForm)
	}
}

// P15.1 with R5: a ticket is of the book that it was made in.
func TestBooks(t *testing.T) {
	one, two := start(t, 10), start(t, 10)
	checkPut(t, one, 5, some, 1)
	checkNoGet(t, two, 5, 0, 1, api.ErrTicketOpen)
	checkTerms(t, two)
	named(t, two, "x")
	checkPut(t, two, 5, api.Body{}, 2)
	checkGet(t, one, 5, 0, 1, some)
	checkGet(t, two, 5, 0, 2, api.Body{})
	checkNoGet(t, one, 5, 0, 2, api.ErrTicketOpen)
	checkNoGet(t, two, 5, 0, 1, api.ErrTicketOpen)
	checkTerms(t, one, keyTerm(5), sealTerm(0, bytesOf(some)))
	checkTerms(t, two, "x", keyTerm(5), sealTerm(1, bytesOf(api.Body{})))
}

// isUpToBy is whether x is from 0 to most, told by the words.
func isUpToBy(x, most int) bool {
	return !(x < 0) && !(x > most)
}

// readPut is Put by the chapter's words over a row of terms; it gives the row behind it, too.
func readPut(row []string, most, epoch int, x api.Body) ([]string, int, api.Errno) {
	for _, n := range []int{x.User, x.Gen, x.Expires, x.Session, x.Key, epoch} {
		if !isUpToBy(n, 1073741823) {
			return row, 0, api.ErrTicketForm
		}
	}
	if x.User > 7 {
		return row, 0, api.ErrTicketForm
	}
	name := -1
	for _, s := range []func() string{func() string { return keyTerm(epoch) }, func() string { return sealTerm(name, bytesOf(x)) }} {
		term := s()
		name = slices.Index(row, term)
		if name < 0 && len(row) == most {
			return row, 0, api.ErrTicketForm
		}
		if name < 0 {
			name = len(row)
			row = append(row, term)
		}
	}
	return row, name, api.OK
}

// readGet is Get by the chapter's words over a row of terms and the bodies that were ever sealed.
func readGet(row []string, made []api.Body, now, keep, tag int) (api.Body, api.Errno) {
	if !isUpToBy(now, 1073741823) || !isUpToBy(keep, 4) {
		return api.Body{}, api.ErrTicketForm
	}
	for epoch := now; epoch >= 0 && now-epoch <= keep; epoch-- {
		key := slices.Index(row, keyTerm(epoch))
		if key < 0 || tag < 0 || tag >= len(row) {
			continue
		}
		for _, x := range made {
			if row[tag] == sealTerm(key, bytesOf(x)) {
				return x, api.OK
			}
		}
	}
	return api.Body{}, api.ErrTicketOpen
}

// P15.1: rows of calls held against a plain reader of the chapter's words.
func TestRandom(t *testing.T) {
	r := rand.New(rand.NewSource(15))
	for range 400 {
		checkRow(t, r)
	}
}

// pick gives a number of the few from one on, or one that is none.
func pick(r *rand.Rand, from, few int) int {
	if r.Intn(25) == 0 {
		return noNumbers[r.Intn(len(noNumbers))]
	}
	return from + r.Intn(few)
}

// checkRow makes and opens tickets in one book.
func checkRow(t *testing.T, r *rand.Rand) {
	t.Helper()
	most := 1 + r.Intn(40)
	b := start(t, most)
	from := []int{0, 2, 250, 65530, api.MaxNum - 6}[r.Intn(5)]
	var row []string
	var made []api.Body
	for range 150 {
		if r.Intn(3) == 0 {
			x := api.Body{User: pick(r, 0, 9), Gen: pick(r, 0, 2), Expires: pick(r, 255, 2), Session: pick(r, 1, 2), Key: pick(r, api.MaxNum, 1)}
			epoch := pick(r, from, 7)
			after, tag, want := readPut(row, most, epoch, x)
			if got, e := Put(b, epoch, x); got != tag || e != want {
				t.Fatalf("Put(%d, %v): %d, %d, want %d, %d", epoch, x, got, e, tag, want)
			}
			row = after
			if want == api.OK {
				made = append(made, x)
			}
		} else {
			now, keep, tag := pick(r, from, 9), pick(r, 0, 6), pick(r, 0, most+1)
			x, want := readGet(row, made, now, keep, tag)
			if got, e := Get(b, now, keep, tag); got != x || e != want {
				t.Fatalf("Get(%d, %d, %d): %v, %d, want %v, %d", now, keep, tag, got, e, x, want)
			}
		}
		if b.Len() != len(row) {
			t.Fatalf("%d terms, want %d", b.Len(), len(row))
		}
	}
	checkTerms(t, b, row...)
}

// P15.1 with R5: several goroutines at one time, each with a book.
func TestAtOneTime(t *testing.T) {
	var all sync.WaitGroup
	for k := range 8 {
		b := start(t, 300)
		all.Go(func() {
			for n := range 100 {
				x := api.Body{User: k, Gen: n, Session: 100 - n}
				checkPut(t, b, k+n, x, 2*n+1)
				checkGet(t, b, k+n+k%5, k%5, 2*n+1, x)
				checkNoGet(t, b, k+n+k%5+1, k%5, 2*n+1, api.ErrTicketOpen)
			}
		})
	}
	all.Wait()
}

// P15.1: a book of MaxTerms terms is asked as fast as a small one: by at most five keys.
func TestSize(t *testing.T) {
	b := start(t, api.MaxTerms)
	last := api.MaxTerms - 5
	for epoch := range 5 {
		named(t, b, keyTerm(epoch))
	}
	for n := range last {
		x := api.Body{User: n % api.MaxUsers, Gen: n, Expires: n, Session: n, Key: n}
		if tag, e := Put(b, n%5, x); tag != 5+n || e != api.OK {
			t.Fatalf("Put(%d, %v): %d, %d", n%5, x, tag, e)
		}
	}
	if tag, e := Put(b, 0, api.Body{Key: api.MaxNum}); tag != 0 || e != api.ErrTicketForm || b.Len() != api.MaxTerms {
		t.Fatalf("Put of a full book: %d, %d", tag, e)
	}
	for n := range last {
		want := api.Body{User: n % api.MaxUsers, Gen: n, Expires: n, Session: n, Key: n}
		if x, e := Get(b, 4, api.MaxKeep, 5+n); x != want || e != api.OK {
			t.Fatalf("Get(%d): %v, %d, want %v", 5+n, x, e, want)
		}
		if x, e := Get(b, 9, api.MaxKeep, 5+n); x != (api.Body{}) || e != api.ErrTicketOpen {
			t.Fatalf("Get(%d) too late: %v, %d", 5+n, x, e)
		}
	}
}
