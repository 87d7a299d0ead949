package ring

import (
	"math"
	"math/rand"
	"slices"
	"strings"
	"sync"
	"testing"

	"bastion/api"
	"bastion/book"
	"bastion/craft"
)

// noNumbers are below 0 or above MaxNum; the last ones, cut to fewer bits, would be numbers that may be.
var noNumbers = []int{
	-1, -2, -7, -255, -256, -api.MaxNum, -api.MaxNum - 1, math.MinInt32, math.MinInt, math.MinInt + 1,
	api.MaxNum + 1, api.MaxNum + 2, math.MaxInt32, math.MaxInt32 + 1, math.MaxInt - 1, math.MaxInt, 1 << 32, 1<<32 + 7, -1<<32 + 7, math.MinInt + 7,
}

// num gives a number's bytes, by layer 1's words.
func num(x int) string {
	out := ""
	for ; x > 0; x /= 256 {
		out = string([]byte{byte(x % 256)}) + out
	}
	return string([]byte{byte(len(out))}) + out
}

// term gives the bytes of an epoch's key, by layer 3's words.
func term(epoch int) string {
	return "Aepoch" + num(epoch)
}

// start gives a book of at most so many terms.
func start(t *testing.T, most int) *book.Book {
	t.Helper()
	b, e := book.New(most)
	if b == nil || e != api.OK {
		t.Fatalf("New(%d): %d", most, e)
	}
	return b
}

// named names a term straight in a book.
func named(t *testing.T, b *book.Book, s string) int {
	t.Helper()
	name, e := b.Name(s)
	if e != api.OK {
		t.Fatalf("Name(%q): %d", s, e)
	}
	return name
}

// checkTerms tells that a book holds just those terms, in their row.
func checkTerms(t *testing.T, b *book.Book, row ...string) {
	t.Helper()
	if n := b.Len(); n != len(row) {
		t.Errorf("Len: %d, want %d", n, len(row))
	}
	for name, want := range row {
		if s, e := b.Term(name); s != want || e != api.OK {
			t.Errorf("Term(%d): %q, %d, want %q", name, s, e, want)
		}
	}
}

// checkKey tells that an epoch's key has that name, which is of the key's bytes.
func checkKey(t *testing.T, b *book.Book, epoch, name int) {
	t.Helper()
	if key, e := Key(b, epoch); key != name || e != api.OK {
		t.Errorf("Key(%d): %d, %d, want %d", epoch, key, e, name)
	}
	if s, e := b.Term(name); s != term(epoch) || e != api.OK {
		t.Errorf("Key(%d): it names %q, %d, want %q", epoch, s, e, term(epoch))
	}
}

// checkNoKey tells that a key is refused, and that the book is as it was.
func checkNoKey(t *testing.T, b *book.Book, epoch int) {
	t.Helper()
	n := b.Len()
	row := make([]string, n)
	for name := range row {
		row[name], _ = b.Term(name)
	}
	if key, e := Key(b, epoch); key != 0 || e != api.ErrRingForm {
		t.Errorf("Key(%d): %d, %d, want ErrRingForm", epoch, key, e)
	}
	checkTerms(t, b, row...)
}

func checkLive(t *testing.T, epoch, now, keep int, want bool) {
	t.Helper()
	if Live(epoch, now, keep) != want {
		t.Errorf("Live(%d, %d, %d): %v, want %v", epoch, now, keep, !want, want)
	}
}

// P14.1: each key is the atom of its epoch, of unlike epochs another one, and made again the same.
func TestKey(t *testing.T) {
	rows := []struct {
		epoch int
		term  string
	}{
		{7, "Aepoch\x01\x07"}, {8, "Aepoch\x01\x08"}, {0, "Aepoch\x00"}, {1, "Aepoch\x01\x01"}, {2, "Aepoch\x01\x02"}, {200, "Aepoch\x01\xc8"},
		{254, "Aepoch\x01\xfe"}, {255, "Aepoch\x01\xff"}, {256, "Aepoch\x02\x01\x00"}, {257, "Aepoch\x02\x01\x01"}, {300, "Aepoch\x02\x01\x2c"},
		{65535, "Aepoch\x02\xff\xff"}, {65536, "Aepoch\x03\x01\x00\x00"}, {65537, "Aepoch\x03\x01\x00\x01"}, {16777215, "Aepoch\x03\xff\xff\xff"},
		{16777216, "Aepoch\x04\x01\x00\x00\x00"}, {16777217, "Aepoch\x04\x01\x00\x00\x01"}, {api.MaxNum - 1, "Aepoch\x04\x3f\xff\xff\xfe"}, {api.MaxNum, "Aepoch\x04\x3f\xff\xff\xff"},
	}
	b := start(t, len(rows))
	var want []string
	for name, r := range rows {
		checkKey(t, b, r.epoch, name)
		want = append(want, r.term)
		checkTerms(t, b, want...)
	}
	for name := len(rows) - 1; name >= 0; name-- {
		checkKey(t, b, rows[name].epoch, name)
	}
	checkTerms(t, b, want...)
}

// P14.1: what is no epoch has no key.
func TestNoKey(t *testing.T) {
	b := start(t, 100)
	for _, epoch := range noNumbers {
		checkNoKey(t, b, epoch)
	}
	checkTerms(t, b)
	checkKey(t, b, 5, 0)
	for _, epoch := range noNumbers {
		checkNoKey(t, b, epoch)
	}
	checkKey(t, b, api.MaxNum, 1)
	checkTerms(t, b, term(5), term(api.MaxNum))
}

// P14.1: a full book gives the keys that it has, and no more.
func TestFull(t *testing.T) {
	b := start(t, 3)
	name := named(t, b, "x")
	checkKey(t, b, 4, name+1)
	checkKey(t, b, 0, name+2)
	for range 2 {
		for _, epoch := range []int{1, 3, 5, 255, 256, api.MaxNum} {
			checkNoKey(t, b, epoch)
		}
		checkKey(t, b, 4, name+1)
		checkKey(t, b, 0, name+2)
	}
	checkTerms(t, b, "x", term(4), term(0))
	one := start(t, 1)
	checkKey(t, one, 4, 0)
	checkNoKey(t, one, 5)
	checkKey(t, one, 4, 0)
}

// P14.1: a key's term that stands in the book already is the key, and terms that are like it are not.
func TestNamed(t *testing.T) {
	row := []string{"epoch\x01\x02", term(2), "Hepoch\x01\x02", "Sepoch\x01\x02", "Aepoch", "Aepoch\x01", "Aepoch\x01\x02\x00", "Aepoch\x02\x00\x02", "AEpoch\x01\x02", "Aepoch2", term(api.MaxNum)}
	b := start(t, len(row)+1)
	for name, s := range row {
		if got := named(t, b, s); got != name {
			t.Fatalf("Name(%q): %d, want %d", s, got, name)
		}
	}
	checkKey(t, b, 2, 1)
	checkKey(t, b, api.MaxNum, len(row)-1)
	checkTerms(t, b, row...)
	checkKey(t, b, 0, len(row))
	checkNoKey(t, b, 1)
	checkTerms(t, b, append(row, term(0))...)
}

// P14.1: a key is layer 3's atom, made there or here.
func TestAtom(t *testing.T) {
	b := start(t, 10)
	for name, epoch := range []int{3, 0, 256, api.MaxNum} {
		atom, e := craft.Atom(b, "epoch"+num(epoch))
		if atom != name || e != api.OK {
			t.Fatalf("Atom: %d, %d", atom, e)
		}
		checkKey(t, b, epoch, atom)
	}
	checkTerms(t, b, term(3), term(0), term(256), term(api.MaxNum))
}

// P14.1 with R3 and R6: a nil book, told ahead of what else is wrong.
func TestNil(t *testing.T) {
	for _, epoch := range append([]int{0, 1, 255, 256, api.MaxNum}, noNumbers...) {
		if key, e := Key(nil, epoch); key != 0 || e != api.ErrNil {
			t.Errorf("Key(nil, %d): %d, %d, want ErrNil", epoch, key, e)
		}
	}
}

// P14.1 with R2 and R6: several errors at once, each of them with nothing beside it.
func TestSeveral(t *testing.T) {
	full := start(t, 2)
	named(t, full, "x")
	checkKey(t, full, 7, 1)
	for _, epoch := range noNumbers {
		checkNoKey(t, full, epoch)
	}
	checkKey(t, full, 7, 1)
	checkTerms(t, full, "x", term(7))
}

// P14.1 with R1: a book that layer 2 did not make holds no keys, and makes none.
func TestUnmade(t *testing.T) {
	b := new(book.Book)
	for _, epoch := range append([]int{0, 1, api.MaxNum}, noNumbers...) {
		checkNoKey(t, b, epoch)
	}
}

// P14.1 with R5: a key is of the book that it was made in.
func TestBooks(t *testing.T) {
	one, two := start(t, 10), start(t, 10)
	checkKey(t, one, 7, 0)
	checkKey(t, one, 8, 1)
	checkTerms(t, two)
	checkKey(t, two, 8, 0)
	checkKey(t, one, 7, 0)
	checkKey(t, one, 8, 1)
	checkKey(t, two, 7, 1)
	checkTerms(t, one, term(7), term(8))
	checkTerms(t, two, term(8), term(7))
}

// P14.1: Live at the edges that the numbers have.
func TestLive(t *testing.T) {
	const most = api.MaxNum
	for _, r := range []struct {
		epoch, now, keep int
		want             bool
	}{
		{0, 0, 0, true}, {0, 0, 1, true}, {0, 0, most, true}, {0, 0, most + 1, false}, {0, 0, -1, false}, {-1, 0, 0, false}, {-1, 0, 1, false}, {-1, -1, 0, false}, {0, -1, 0, false}, {0, -1, most, false},
		{0, 1, 0, false}, {0, 1, 1, true}, {1, 0, 0, false}, {1, 0, 1, false}, {1, 0, most, false}, {1, 1, 0, true}, {2, 1, 1, false}, {1, 2, 1, true}, {0, 2, 1, false}, {0, 2, 2, true},
		{6, 10, 4, true}, {5, 10, 4, false}, {7, 10, 4, true}, {10, 10, 4, true}, {11, 10, 4, false}, {9, 10, 0, false}, {10, 10, 0, true},
		{255, 256, 0, false}, {255, 256, 1, true}, {256, 255, 1, false}, {0, 256, 255, false}, {0, 256, 256, true}, {0, 256, 0, false}, {0, 65536, 0, false}, {0, 65536, 65535, false}, {0, 65536, 65536, true},
		{most, most, 0, true}, {most, most, most, true}, {most - 1, most, 0, false}, {most - 1, most, 1, true}, {0, most, most, true}, {0, most, most - 1, false}, {1, most, most - 1, true}, {1, most, most - 2, false}, {0, most - 1, most - 1, true},
		{most, most - 1, 0, false}, {most, most - 1, most, false}, {most, 0, most, false}, {most, 0, 0, false}, {0, most, -1, false}, {most, most, -1, false},
		{most + 1, most + 1, 0, false}, {most + 1, most + 1, most, false}, {most, most + 1, 1, false}, {most, most + 1, most, false}, {1, most + 1, most, false}, {0, most + 1, most + 1, false}, {most + 1, most, 0, false}, {most + 1, most, most, false}, {most, most, most + 1, false}, {0, most, most + 1, false},
	} {
		checkLive(t, r.epoch, r.now, r.keep, r.want)
	}
}

// P14.1: now less epoch just below, at and above keep, and epoch at now and just beyond.
func TestDifference(t *testing.T) {
	for _, now := range []int{0, 1, 2, 3, 4, 5, 100, 255, 256, 65536, api.MaxNum - 1, api.MaxNum} {
		for _, keep := range []int{0, 1, 2, 3, 4, 5, 99, 100, 255, 256, 65536, api.MaxNum - 1, api.MaxNum} {
			for _, far := range []int{keep - 2, keep - 1, keep, keep + 1, keep + 2} {
				epoch := now - far
				checkLive(t, epoch, now, keep, epoch >= 0 && far >= 0 && far <= keep)
			}
			checkLive(t, now, now, keep, true)
			checkLive(t, now+1, now, keep, false)
			checkLive(t, now+2, now, keep, false)
			checkLive(t, -1, now, keep, false)
		}
	}
}

// P14.1: of a row of epochs just now's own and keep behind it live.
func TestHowMany(t *testing.T) {
	for now := range 20 {
		for keep := range 25 {
			var live []int
			for epoch := -30; epoch < 50; epoch++ {
				if Live(epoch, now, keep) {
					live = append(live, epoch)
				}
			}
			first := max(0, now-keep)
			if len(live) != now-first+1 || live[0] != first || live[len(live)-1] != now {
				t.Errorf("now %d, keep %d: %v", now, keep, live)
			}
		}
	}
}

// P14.1: what is no number, in each place, beside numbers that would do with any other.
func TestNoNumbers(t *testing.T) {
	numbers := []int{0, 1, 4, 7, 256, api.MaxNum - 1, api.MaxNum}
	for _, no := range noNumbers {
		for _, x := range numbers {
			for _, y := range numbers {
				checkLive(t, no, x, y, false)
				checkLive(t, x, no, y, false)
				checkLive(t, x, y, no, false)
			}
		}
	}
}

// P14.1 with R6: several that are no numbers at once, alike and unlike.
func TestNoNumbersAtOnce(t *testing.T) {
	for _, x := range noNumbers {
		for _, y := range noNumbers {
			for _, z := range []int{0, 1, 7, api.MaxNum} {
				checkLive(t, x, y, z, false)
				checkLive(t, x, z, y, false)
				checkLive(t, z, x, y, false)
			}
			for _, z := range noNumbers {
				checkLive(t, x, y, z, false)
			}
		}
	}
}

// read is Live by the chapter's words, one by one, without a difference of its own.
func read(epoch, now, keep int) bool {
	for _, x := range []int{epoch, now, keep} {
		if x < 0 || x > 1073741823 {
			return false
		}
	}
	for range keep {
		if epoch >= now {
			break
		}
		epoch++
	}
	return epoch == now
}

// P14.1: rows of calls held against a plain reader of the chapter's words.
func TestRandom(t *testing.T) {
	r := rand.New(rand.NewSource(14))
	pick := func(from int) int {
		if r.Intn(20) == 0 {
			return noNumbers[r.Intn(len(noNumbers))]
		}
		return from + r.Intn(12)
	}
	for range 200000 {
		from := []int{-2, 0, 100, 250, 65530, api.MaxNum - 10}[r.Intn(6)]
		epoch, now, keep := pick(from), pick(from), pick(-1)
		checkLive(t, epoch, now, keep, read(epoch, now, keep))
	}
	for range 100 {
		checkRow(t, r)
	}
}

// checkRow makes keys in a book, and tells that they are named in the row in which they came.
func checkRow(t *testing.T, r *rand.Rand) {
	t.Helper()
	most := 1 + r.Intn(30)
	b := start(t, most)
	var row []string
	for range 200 {
		epoch := []int{-2, 0, 250, 65530, api.MaxNum - 5}[r.Intn(5)] + r.Intn(10)
		if epoch < 0 || epoch > api.MaxNum {
			checkNoKey(t, b, epoch)
			continue
		}
		name := slices.Index(row, term(epoch))
		if name < 0 && len(row) == most {
			checkNoKey(t, b, epoch)
			continue
		}
		if name < 0 {
			name = len(row)
			row = append(row, term(epoch))
		}
		checkKey(t, b, epoch, name)
	}
	checkTerms(t, b, row...)
}

// P14.1 with T4: neither one's key nor a hash, tag or seal of the like is another's.
func TestOtherTerms(t *testing.T) {
	b := start(t, 100)
	for _, other := range []func() (int, api.Errno){
		func() (int, api.Errno) { return craft.Hash(b, "epoch"+num(2)) },
		func() (int, api.Errno) { return craft.Mac(b, 2, "epoch"+num(2)) },
		func() (int, api.Errno) { return craft.Seal(b, 2, "epoch"+num(2)) },
		func() (int, api.Errno) { return craft.Atom(b, "epoch") },
		func() (int, api.Errno) { return craft.Atom(b, num(2)) },
		func() (int, api.Errno) { return craft.Atom(b, "epoch2") },
		func() (int, api.Errno) { return craft.Atom(b, num(2)+"epoch") },
		func() (int, api.Errno) { return craft.Atom(b, num(5)+"epoch"+num(2)) },
		func() (int, api.Errno) { return craft.Atom(b, "epoch"+num(2)+"\x00") },
		func() (int, api.Errno) { return craft.Atom(b, strings.Repeat("epoch"+num(2), 2)) },
	} {
		if _, e := other(); e != api.OK {
			t.Fatal(e)
		}
	}
	n := b.Len()
	checkKey(t, b, 2, n)
	checkKey(t, b, 258, n+1)
	checkKey(t, b, 2, n)
}

// P14.1 with R5: several goroutines at one time, each with a book.
func TestAtOneTime(t *testing.T) {
	var all sync.WaitGroup
	for k := range 8 {
		b := start(t, 300)
		all.Go(func() {
			for name := range 300 {
				checkKey(t, b, k+name, name)
				checkLive(t, k+name, k+name, 0, true)
				checkLive(t, name, k+name, k, true)
				checkLive(t, name, k+name+1, k, false)
			}
		})
	}
	all.Wait()
}

// P14.1: a book of MaxTerms terms is asked as fast as a small one.
func TestSize(t *testing.T) {
	b := start(t, api.MaxTerms)
	for range 2 {
		for epoch := range api.MaxTerms {
			if key, e := Key(b, epoch); key != epoch || e != api.OK {
				t.Fatalf("Key(%d): %d, %d", epoch, key, e)
			}
		}
		if key, e := Key(b, api.MaxTerms); key != 0 || e != api.ErrRingForm || b.Len() != api.MaxTerms {
			t.Fatalf("Key(%d): %d, %d", api.MaxTerms, key, e)
		}
	}
}
