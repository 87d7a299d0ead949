package journal

import (
	"math"
	"math/rand"
	"slices"
	"strings"
	"testing"

	"bastion/api"
	"bastion/book"
	"bastion/disk"
	"bastion/record"
)

// left gives how many of the new sectors, in their row, stand on a disk over the old
// ones behind a crash.
func left(fresh, old []string, mask, torn int) int {
	first := true
	for k, s := range fresh {
		if k < 30 && mask>>k&1 == 1 {
			continue
		}
		n := min(torn, api.SectorSize)
		if !first {
			n = 0
		}
		first = false
		if s[:n]+old[k][n:] != s {
			return k
		}
	}
	return len(fresh)
}

// checkCrash writes events on a disk of that image, crashes, and tells that those that
// are there then are the prior ones and a beginning.
func checkCrash(t *testing.T, b *book.Book, base []string, boot int, prior, es []api.Event, mask, torn int) {
	t.Helper()
	d := laid(t, base)
	j := open(t, b, d)
	check(t, j, boot, prior, len(base)-2-len(prior))
	let(t, j, es...)
	at := 2 + len(prior)
	n := left(image(t, d)[at:at+len(es)], base[at:at+len(es)], mask, torn)
	crash(t, d, mask, torn)
	want := slices.Concat(prior, es[:n])
	for k := range 2 {
		check(t, open(t, b, d), boot+1+k, want, len(base)-2-len(want))
	}
	// Whatever stands behind, the row goes on just where it ends.
	j = open(t, b, d)
	add(t, j, spend(700))
	want = append(want, spend(700))
	check(t, j, boot+3, want, len(base)-2-len(want))
	crash(t, d, 0, 0)
	check(t, open(t, b, d), boot+4, want, len(base)-2-len(want))
	if t.Failed() {
		t.Fatalf("Write of %d behind %d, crash %b, torn %d: %d of them", len(es), len(prior), mask, torn, n)
	}
}

// torns are the numbers of bytes that a crash may leave of a sector, and more.
func torns() []int {
	out := []int{api.SectorSize + 1, 1000, math.MaxInt}
	for n := range api.SectorSize + 1 {
		out = append(out, n)
	}
	return out
}

// P11.4: behind a crash of Write, with each number of sectors whole and each number of
// bytes of the next, over sectors that nothing stood in.
func TestCrashes(t *testing.T) {
	for before := range 3 {
		b, d := start(t, 1000), blank(t, 12)
		prior := spends(1, before)
		add(t, open(t, b, d), prior...)
		for n := range 6 {
			for k := range n + 1 {
				for _, torn := range torns() {
					checkCrash(t, b, image(t, d), 2, prior, spends(40, n), 1<<k-1, torn)
				}
			}
		}
	}
}

// P11.4: likewise with each kind of event, which have bodies of unlike lengths.
func TestCrashesOfKinds(t *testing.T) {
	b, d := startAt(t, 1000, 250), blank(t, 20)
	add(t, open(t, b, d))
	all := samples()
	for k := range len(all) + 1 {
		for _, torn := range torns() {
			checkCrash(t, b, image(t, d), 2, nil, all, 1<<k-1, torn)
		}
	}
}

// P11.4: whichever sectors a crash keeps, in whatever row.
func TestHoles(t *testing.T) {
	b, d := start(t, 1000), blank(t, 12)
	add(t, open(t, b, d), spend(1))
	for n := range 6 {
		for mask := range 1 << n {
			for _, torn := range []int{0, 1, 9, 10, 11, 12, 13, 14, 15, 16, 63, 64} {
				checkCrash(t, b, image(t, d), 2, spends(1, 1), spends(40, n), mask, torn)
			}
		}
	}
	checkCrash(t, b, image(t, d), 2, spends(1, 1), spends(40, 5), math.MaxInt, 0)
}

// P11.4: more sectors than a crash's mask tells of.
func TestLongRow(t *testing.T) {
	b, d := start(t, 1000), blank(t, 50)
	add(t, open(t, b, d), spend(1))
	for _, mask := range []int{0, 1<<29 - 1, 1<<30 - 1, 1<<31 - 1, math.MaxInt} {
		for _, torn := range []int{0, 5, 64} {
			checkCrash(t, b, image(t, d), 2, spends(1, 1), spends(40, 40), mask, torn)
		}
	}
}

// stale gives a disk on which behind prior events stand records of an earlier boot, of
// which the first was torn, so that none of them is there.
func stale(t *testing.T, b *book.Book, prior, es []api.Event, torn int) *disk.Disk {
	t.Helper()
	d := blank(t, 14)
	j := open(t, b, d)
	add(t, j, prior...)
	let(t, j, es...)
	crash(t, d, math.MaxInt-1, torn)
	check(t, open(t, b, d), 2, prior, 12-len(prior))
	return d
}

// P11.4: over records of an earlier boot, of like events and of others.
func TestCrashesOverStale(t *testing.T) {
	for _, from := range []int{40, 39, 41, 60} {
		for _, first := range []int{0, 4} {
			for before := range 3 {
				b := start(t, 1000)
				prior := spends(1, before)
				d := stale(t, b, prior, spends(from, 6), first)
				for n := range 4 {
					for k := range n + 1 {
						for _, torn := range torns() {
							checkCrash(t, b, image(t, d), 3, prior, spends(40, n), 1<<k-1, torn)
						}
					}
				}
			}
		}
	}
}

// P11.4: what stands behind from an earlier boot is not there, though each record ahead
// of it be written anew.
func TestStale(t *testing.T) {
	for before := range 3 {
		b := start(t, 1000)
		prior := spends(1, before)
		d := stale(t, b, prior, spends(40, 6), 3)
		was := image(t, d)
		for n := range 6 {
			j := open(t, b, d)
			check(t, j, 3+n, slices.Concat(prior, spends(40, n)), 12-before-n)
			add(t, j, spend(40+n))
			// The next one stands there still.
			if at := 3 + before + n; image(t, d)[at] != was[at] {
				t.Errorf("sector %d: %x", at, image(t, d)[at])
			}
		}
		check(t, open(t, b, d), 9, slices.Concat(prior, spends(40, 6)), 6-before)
	}
}

// P11.4: a row that ended ahead of its time is there again if its lost record is laid
// back, and not if another one is.
func TestLaidBack(t *testing.T) {
	b, d := start(t, 1000), blank(t, 14)
	add(t, open(t, b, d), spends(1, 6)...)
	was := image(t, d)
	lay(t, d, 4, filled(""))
	check(t, open(t, b, d), 2, spends(1, 2), 10)
	lay(t, d, 4, was[4])
	check(t, open(t, b, d), 3, spends(1, 6), 6)
	lay(t, d, 4, filled(""))
	j := open(t, b, d)
	// The same event, of another boot: what is behind hangs on the one that was lost.
	add(t, j, spend(3))
	check(t, j, 4, spends(1, 3), 9)
	check(t, open(t, b, d), 5, spends(1, 3), 9)
	lay(t, d, 4, was[4])
	check(t, open(t, b, d), 6, spends(1, 6), 6)
}

// P11.4: what Append told OK of is there behind any crash.
func TestAppendKept(t *testing.T) {
	for _, mask := range []int{0, 1, 2, 5, math.MaxInt} {
		for _, torn := range torns() {
			b, d := start(t, 100), blank(t, 10)
			j := open(t, b, d)
			there := 0
			for n := range 4 {
				add(t, j, spends(1+there, n)...)
				there += n
				crash(t, d, mask, torn)
				check(t, j, 1, spends(1, there), 8-there)
			}
			check(t, open(t, b, d), 2, spends(1, there), 8-there)
		}
	}
}

// row gives a book, and the sectors of a disk with n records of two boots.
func row(t *testing.T, n, sectors int) (*book.Book, []string) {
	t.Helper()
	b, d := startAt(t, 1000, 250), blank(t, sectors)
	add(t, open(t, b, d), spends(1, n/2)...)
	add(t, open(t, b, d), spends(1+n/2, n-n/2)...)
	return b, image(t, d)
}

// P11.1, P11.4: a sector with any byte turned ends the row.
func TestTurned(t *testing.T) {
	b, sectors := row(t, 5, 9)
	for k := range 5 {
		for at := range api.SectorSize {
			for _, by := range []byte{1, 2, 0x80, 0xff} {
				turned := slices.Clone(sectors)
				x := []byte(turned[2+k])
				x[at] ^= by
				turned[2+k] = string(x)
				check(t, open(t, b, laid(t, turned)), 3, spends(1, k), 7-k)
			}
		}
		for _, none := range []string{filled(""), strings.Repeat("\xff", api.SectorSize), sectors[0], sectors[1]} {
			turned := slices.Clone(sectors)
			turned[2+k] = none
			check(t, open(t, b, laid(t, turned)), 3, spends(1, k), 7-k)
		}
	}
	check(t, open(t, b, laid(t, sectors)), 3, spends(1, 5), 2)
}

// P11.1, P11.4: sectors that change places end the row at the first of them, and so does
// one that stands in another's place, too.
func TestPlaces(t *testing.T) {
	b, sectors := row(t, 6, 10)
	for k := range 8 {
		for n := range k {
			end := min(n, 6)
			moved := slices.Clone(sectors)
			moved[2+k], moved[2+n] = moved[2+n], moved[2+k]
			check(t, open(t, b, laid(t, moved)), 3, spends(1, end), 8-end)
			moved[2+k] = sectors[2+k]
			check(t, open(t, b, laid(t, moved)), 3, spends(1, end), 8-end)
			end = min(k, 6)
			moved[2+n], moved[2+k] = sectors[2+n], sectors[2+n]
			check(t, open(t, b, laid(t, moved)), 3, spends(1, end), 8-end)
		}
	}
	// A row without its first record, or with one put in ahead, has none.
	for k := range 6 {
		check(t, open(t, b, laid(t, slices.Delete(slices.Clone(sectors), 2+k, 3+k))), 3, spends(1, k), 7-k)
		check(t, open(t, b, laid(t, slices.Insert(slices.Clone(sectors), 2+k, filled("")))), 3, spends(1, k), 9-k)
	}
	// A smaller disk ends ahead of it.
	for n := 3; n < 10; n++ {
		there := min(n-2, 6)
		check(t, open(t, b, laid(t, sectors[:n])), 3, spends(1, there), n-2-there)
	}
}

// P11.1: the row begins with a record of Seq 1 and Prev 0, and goes on by both.
func TestChain(t *testing.T) {
	b := start(t, 1000)
	put := func(seq, prev int, x api.Event) (string, int) {
		s, name, e := record.Put(b, api.Record{Seq: seq, Boot: 9, Prev: prev, Event: x})
		if e != api.OK {
			t.Fatal(e)
		}
		return s, name
	}
	none, _ := put(5, 5, spend(99))
	one, first := put(1, 0, spend(1))
	two, second := put(2, first, spend(2))
	three, _ := put(3, second, spend(3))
	off, _ := put(2, 0, spend(4))
	wrong, _ := put(3, first, spend(5))
	other, _ := put(1, first, spend(6))
	gap, _ := put(3, second+1, spend(7))
	again, _ := put(4, second, spend(8))
	for k, c := range []struct {
		sectors []string
		there   int
	}{
		{[]string{none, one, two}, 0}, {[]string{off, one, two}, 0}, {[]string{other, two, three}, 0}, {[]string{two, three, one}, 0},
		{[]string{one, off, three}, 1}, {[]string{one, other, three}, 1}, {[]string{one, three, two}, 1}, {[]string{one, one, two}, 1}, {[]string{one, wrong, none}, 1},
		{[]string{one, two, wrong}, 2}, {[]string{one, two, gap}, 2}, {[]string{one, two, again}, 2}, {[]string{one, two, two}, 2},
		{[]string{one, two, three}, 3}, {[]string{one, two, three, three}, 3}, {[]string{one, two, three, one, two}, 3},
	} {
		d := laid(t, slices.Concat([]string{filled(""), filled("")}, c.sectors))
		j := open(t, b, d)
		check(t, j, 1, spends(1, c.there), len(c.sectors)-c.there)
		if t.Failed() {
			t.Fatalf("row %d", k)
		}
	}
}

// P11.1: of a book in which the hashes have no names, or others, no record is there.
func TestOtherBook(t *testing.T) {
	_, sectors := row(t, 5, 9)
	for _, n := range []int{0, 1, 250, 251, 300} {
		j := open(t, startAt(t, 1000, n), laid(t, sectors))
		check(t, j, 1, nil, 7)
		add(t, j, spend(8))
		check(t, j, 1, spends(8, 1), 6)
	}
}

// P11.1, P11.4: a slot that is torn at each byte over what it held leaves the other boot,
// and the row as it was.
func TestTornSlot(t *testing.T) {
	for _, last := range []int{1, 2, 3, 6, 255, 256, 257} {
		b, d := start(t, 1000), blank(t, 7)
		add(t, open(t, b, d), spends(1, 3)...)
		for range last - 1 {
			open(t, b, d)
		}
		was := image(t, d)
		open(t, b, d)
		is := image(t, d)
		place := last % 2
		for n := range api.SectorSize + 1 {
			sectors := slices.Clone(was)
			sectors[place] = is[place][:n] + was[place][n:]
			boot, next := last+1, place
			if sectors[place] == is[place] {
				boot, next = last+2, 1-place
			}
			torn := laid(t, sectors)
			check(t, open(t, b, torn), boot, spends(1, 3), 2)
			now := image(t, torn)
			if now[next] != bootSector(t, b, boot) || now[1-next] != sectors[1-next] {
				t.Errorf("boot %d torn at %d: %x", last+1, n, now[:2])
			}
		}
		// Both gone: boot 1 again, and the row as it was.
		is[0], is[1] = filled(""), is[1][:1]+filled("")[1:]
		d = laid(t, is)
		check(t, open(t, b, d), 1, spends(1, 3), 2)
		if now := image(t, d); now[0] != bootSector(t, b, 1) || now[1] != is[1] {
			t.Errorf("boot 1 again: %x", now[:2])
		}
	}
}

// spot is a record that was made: where it belongs, and its hash's name.
type spot struct {
	seq, prev, name int
	x               api.Event
}

// plain is a plain reader of the chapter's words: it knows each sector that was made.
type plain struct {
	b      *book.Book
	d      *disk.Disk
	made   map[string]spot
	boots  map[string]int
	boot   int
	events []api.Event
	last   int
}

// open reads a disk, ahead of its being opened.
func (p *plain) open(t *testing.T) {
	t.Helper()
	sectors := image(t, p.d)
	p.boot = max(p.boots[sectors[0]], p.boots[sectors[1]]) + 1
	p.events, p.last = nil, 0
	for _, s := range sectors[2:] {
		k, is := p.made[s]
		if !is || k.seq != len(p.events)+1 || k.prev != p.last {
			return
		}
		p.events = append(p.events, k.x)
		p.last = k.name
	}
}

// opened knows the sector of the boot.
func (p *plain) opened(t *testing.T) {
	t.Helper()
	p.boots[bootSector(t, p.b, p.boot)] = p.boot
}

// wrote knows the sectors of events, tells that they are read, and gives the last name.
func (p *plain) wrote(t *testing.T, es []api.Event) int {
	t.Helper()
	sectors, prev := image(t, p.d), p.last
	for k, x := range es {
		seq := len(p.events) + k + 1
		name := checkRecord(t, p.b, sectors[1+seq], seq, p.boot, prev, x)
		p.made[sectors[1+seq]] = spot{seq, prev, name, x}
		prev = name
	}
	return prev
}

// tamper lays what was made once into any place, or tears it there.
func (p *plain) tamper(t *testing.T, r *rand.Rand) {
	t.Helper()
	sectors := image(t, p.d)
	all := []string{filled("")}
	for s := range p.made {
		all = append(all, s)
	}
	slices.Sort(all)
	at := 2 + r.Intn(len(sectors)-2)
	n := r.Intn(2) * r.Intn(api.SectorSize)
	lay(t, p.d, at, sectors[at][:n]+all[r.Intn(len(all))][n:])
}

// P11.1 to P11.4: rows of calls, crashes and tampering, held against the plain reader.
func TestScripts(t *testing.T) {
	for seed := range int64(150) {
		r := rand.New(rand.NewSource(seed))
		sectors := 3 + r.Intn(12)
		p := &plain{b: startAt(t, 5000, r.Intn(300)), d: blank(t, sectors), made: map[string]spot{}, boots: map[string]int{}}
		for range 25 {
			p.open(t)
			j := open(t, p.b, p.d)
			p.opened(t)
			for range r.Intn(5) {
				es := spends(r.Intn(3), r.Intn(4))
				if e := j.Append(es...); e != api.OK {
					if e != api.ErrJournalFull || len(es) <= sectors-2-len(p.events) {
						t.Fatalf("Append of %d: %d", len(es), e)
					}
					continue
				}
				p.last = p.wrote(t, es)
				p.events = append(p.events, es...)
				check(t, j, p.boot, p.events, sectors-2-len(p.events))
			}
			if es := spends(r.Intn(3), r.Intn(5)); j.Write(es...) == api.OK {
				p.wrote(t, es)
				checkOver(t, j)
			}
			check(t, j, p.boot, p.events, sectors-2-len(p.events))
			if r.Intn(4) > 0 {
				crash(t, p.d, r.Intn(32), r.Intn(80))
			}
			if r.Intn(3) == 0 {
				p.tamper(t, r)
			}
			if t.Failed() {
				t.Fatalf("seed %d, boot %d", seed, p.boot)
			}
		}
	}
}
