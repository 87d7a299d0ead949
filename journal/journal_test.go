package journal

import (
	"slices"
	"strconv"
	"strings"
	"sync"
	"testing"

	"bastion/api"
	"bastion/book"
	"bastion/craft"
	"bastion/disk"
)

// num gives a number's bytes, by layer 1's words.
func num(x int) string {
	out := ""
	for ; x > 0; x /= 256 {
		out = string([]byte{byte(x % 256)}) + out
	}
	return string([]byte{byte(len(out))}) + out
}

// filled gives the sector that begins so.
func filled(s string) string {
	return s + strings.Repeat("\x00", api.SectorSize-len(s))
}

// start gives a book of at most so many terms.
func start(t *testing.T, most int) *book.Book {
	t.Helper()
	return startAt(t, most, 0)
}

// startAt gives a book whose next name is n.
func startAt(t *testing.T, most, n int) *book.Book {
	t.Helper()
	b, e := book.New(most)
	if e != api.OK {
		t.Fatalf("book.New(%d): %d", most, e)
	}
	for k := range n {
		if _, e := b.Name("term " + strconv.Itoa(k)); e != api.OK {
			t.Fatalf("Name: %d", e)
		}
	}
	return b
}

// blank gives a disk of so many sectors.
func blank(t *testing.T, sectors int) *disk.Disk {
	t.Helper()
	d, e := disk.New(sectors)
	if e != api.OK {
		t.Fatalf("disk.New(%d): %d", sectors, e)
	}
	return d
}

// laid gives a disk that holds just these sectors.
func laid(t *testing.T, image []string) *disk.Disk {
	t.Helper()
	d := blank(t, len(image))
	for at, s := range image {
		lay(t, d, at, s)
	}
	return d
}

// lay keeps a sector of a disk.
func lay(t *testing.T, d *disk.Disk, at int, s string) {
	t.Helper()
	if e := d.Write(at, s); e != api.OK {
		t.Fatalf("disk.Write(%d): %d", at, e)
	}
	if e := d.Flush(); e != api.OK {
		t.Fatalf("Flush: %d", e)
	}
}

// image gives a disk's sectors, as it reads them.
func image(t *testing.T, d *disk.Disk) []string {
	t.Helper()
	out := []string{}
	for at := range api.MaxSectors + 1 {
		s, e := d.Read(at)
		if e == api.ErrDiskForm {
			return out
		}
		if e != api.OK {
			t.Fatalf("Read(%d): %d", at, e)
		}
		out = append(out, s)
	}
	t.Fatal("a disk without end")
	return nil
}

// crash takes a disk down and up.
func crash(t *testing.T, d *disk.Disk, mask, torn int) {
	t.Helper()
	if e := d.Crash(mask, torn); e != api.OK {
		t.Fatalf("Crash(%d, %d): %d", mask, torn, e)
	}
	if e := d.Restart(); e != api.OK {
		t.Fatalf("Restart: %d", e)
	}
}

// sample is an event of each kind with its bytes, and the greatest.
var sample = []struct {
	x api.Event
	s string
}{
	{api.Event{Kind: api.EvBoot, Tick: 350}, "\x00" + "\x02\x01\x5e"},
	{api.Event{Kind: api.EvUser, User: 3, A: 350, B: 65536, C: 5}, "\x01\x01" + "\x01\x03" + "\x02\x01\x5e" + "\x03\x01\x00\x00" + "\x01\x05"},
	{api.Event{Kind: api.EvFail, User: 2, Tick: 350}, "\x01\x02" + "\x01\x02" + "\x02\x01\x5e"},
	{api.Event{Kind: api.EvPass, User: 4, A: 350}, "\x01\x03" + "\x01\x04" + "\x02\x01\x5e"},
	{api.Event{Kind: api.EvUnlock, User: 5}, "\x01\x04" + "\x01\x05"},
	{api.Event{Kind: api.EvLease, Session: 350, User: 1, Address: 12, Tick: 65536}, "\x01\x05" + "\x02\x01\x5e" + "\x01\x01" + "\x01\x0c" + "\x03\x01\x00\x00"},
	{api.Event{Kind: api.EvClose, Session: 350, A: 65536, B: api.WhyQuota, Tick: 9}, "\x01\x06" + "\x02\x01\x5e" + "\x03\x01\x00\x00" + "\x01\x03" + "\x01\x09"},
	{api.Event{Kind: api.EvRevoke, User: 6}, "\x01\x07" + "\x01\x06"},
	{api.Event{Kind: api.EvRotate}, "\x01\x08"},
	{api.Event{Kind: api.EvSpend, Session: 350}, "\x01\x09" + "\x02\x01\x5e"},
	{api.Event{}, "\x00\x00"},
	{api.Event{Kind: api.EvUser, User: api.MaxUsers - 1, A: api.MaxNum, B: api.MaxNum, C: api.MaxQuota}, "\x01\x01" + "\x01\x07" + "\x04\x3f\xff\xff\xff" + "\x04\x3f\xff\xff\xff" + "\x03\x10\x00\x00"},
}

// samples gives the events of sample.
func samples() []api.Event {
	out := []api.Event{}
	for _, c := range sample {
		out = append(out, c.x)
	}
	return out
}

// bytesOf gives an event's bytes, by layer 7's words.
func bytesOf(t *testing.T, x api.Event) string {
	t.Helper()
	for _, c := range sample {
		if c.x == x {
			return c.s
		}
	}
	if x != spend(x.Session) {
		t.Fatalf("no bytes of an event of kind %d", x.Kind)
	}
	return "\x01\x09" + num(x.Session)
}

// spend gives one of many events.
func spend(k int) api.Event { return api.Event{Kind: api.EvSpend, Session: k} }

// spends gives n events from k on.
func spends(k, n int) []api.Event {
	out := []api.Event{}
	for i := range n {
		out = append(out, spend(k+i))
	}
	return out
}

// noEvents are events that may not be.
var noEvents = []api.Event{
	{Kind: 10}, {Kind: -1}, {Kind: 99}, {User: 1}, {Tick: -1}, {Tick: api.MaxTick + 1},
	{Kind: api.EvUser, User: api.MaxUsers}, {Kind: api.EvUser, C: api.MaxQuota + 1}, {Kind: api.EvLease, Address: api.MaxAddresses},
	{Kind: api.EvClose, B: 5}, {Kind: api.EvRotate, A: 1}, {Kind: api.EvSpend, Session: api.MaxNum + 1},
}

// recordHash gives what a record's hash is of, by layer 9's words.
func recordHash(t *testing.T, seq, boot, prev int, x api.Event) string {
	t.Helper()
	s := bytesOf(t, x)
	return "record" + num(seq) + num(boot) + num(prev) + num(len(s)) + s
}

// checkRecord tells that a sector is a record's, and gives its hash's name.
func checkRecord(t *testing.T, b *book.Book, s string, seq, boot, prev int, x api.Event) int {
	t.Helper()
	text := recordHash(t, seq, boot, prev, x)
	name, is := b.Find("H" + text)
	if !is {
		t.Fatalf("no hash of record %d of boot %d behind %d", seq, boot, prev)
	}
	if want := filled(strings.TrimPrefix(text, "record") + num(name)); s != want {
		t.Errorf("record %d: %x, want %x", seq, s, want)
	}
	return name
}

// bootSector gives the sector of a boot whose hash has a name, by layer 10's words.
func bootSector(t *testing.T, b *book.Book, boot int) string {
	t.Helper()
	name, is := b.Find("Hsuper" + num(boot))
	if !is {
		t.Fatalf("no hash of boot %d", boot)
	}
	return filled(num(boot) + num(name))
}

// hash names the hash of a text, as anybody may.
func hash(t *testing.T, b *book.Book, s string) int {
	t.Helper()
	name, e := craft.Hash(b, s)
	if e != api.OK {
		t.Fatalf("Hash(%x): %d", s, e)
	}
	return name
}

// open opens a disk that may be opened.
func open(t *testing.T, b *book.Book, d *disk.Disk) *Journal {
	t.Helper()
	j, e := Open(b, d)
	if j == nil || e != api.OK {
		t.Fatalf("Open: %d", e)
	}
	return j
}

// add appends events that may be appended.
func add(t *testing.T, j *Journal, es ...api.Event) {
	t.Helper()
	if e := j.Append(es...); e != api.OK {
		t.Fatalf("Append of %d: %d", len(es), e)
	}
}

// let writes events that may be written.
func let(t *testing.T, j *Journal, es ...api.Event) {
	t.Helper()
	if e := j.Write(es...); e != api.OK {
		t.Fatalf("Write of %d: %d", len(es), e)
	}
}

// check tells what a journal holds.
func check(t *testing.T, j *Journal, boot int, es []api.Event, room int) {
	t.Helper()
	if got := j.Events(); !slices.Equal(got, es) {
		t.Errorf("Events: %v, want %v", got, es)
	}
	if j.Boot() != boot || j.Room() != room {
		t.Errorf("Boot, Room: %d, %d, want %d, %d", j.Boot(), j.Room(), boot, room)
	}
}

// checkNoOpen tells that a disk isn't opened.
func checkNoOpen(t *testing.T, b *book.Book, d *disk.Disk, e api.Errno) {
	t.Helper()
	if j, f := Open(b, d); j != nil || f != e {
		t.Errorf("Open: %v, %d, want nil, %d", j != nil, f, e)
	}
}

// checkRefused tells that both calls refuse events, and that nothing is told by it: not
// by the journal, the disk, or the book.
func checkRefused(t *testing.T, b *book.Book, d *disk.Disk, j *Journal, e api.Errno, es ...api.Event) {
	t.Helper()
	boot, there, room, waits, terms := j.Boot(), j.Events(), j.Room(), d.Waits(), b.Len()
	sectors := image(t, d)
	if f := j.Append(es...); f != e {
		t.Errorf("Append of %v: %d, want %d", es, f, e)
	}
	if f := j.Write(es...); f != e {
		t.Errorf("Write of %v: %d, want %d", es, f, e)
	}
	check(t, j, boot, there, room)
	if d.Waits() != waits || b.Len() != terms || !slices.Equal(image(t, d), sectors) {
		t.Errorf("refused: %d wait, want %d; %d terms, want %d", d.Waits(), waits, b.Len(), terms)
	}
}

// checkOver tells that a journal takes nothing any more.
func checkOver(t *testing.T, j *Journal) {
	t.Helper()
	for _, es := range [][]api.Event{nil, {spend(1)}, {noEvents[0]}, spends(1, 300)} {
		if e, f := j.Append(es...), j.Write(es...); e != api.ErrJournalDown || f != e {
			t.Errorf("Append, Write of %d: %d, %d, want ErrJournalDown", len(es), e, f)
		}
	}
}

// P11.1 to P11.3: events appended in several calls are there, and there again.
func TestOrdinary(t *testing.T) {
	b, d := start(t, 1000), blank(t, 50)
	j := open(t, b, d)
	check(t, j, 1, nil, 48)
	all := samples()
	there := 0
	for _, n := range []int{1, 2, 0, 3, len(all) - 6} {
		add(t, j, all[there:there+n]...)
		there += n
		check(t, j, 1, all[:there], 48-there)
		if d.Waits() != 0 {
			t.Errorf("Append of %d: %d wait", n, d.Waits())
		}
	}
	for boot := 2; boot < 10; boot++ {
		j = open(t, b, d)
		check(t, j, boot, all, 48-len(all))
		if d.Waits() != 0 {
			t.Errorf("Open: %d wait", d.Waits())
		}
		add(t, j, spend(boot))
		all = append(all, spend(boot))
		check(t, j, boot, all, 48-len(all))
	}
	// Like events are as many as they were appended.
	add(t, j, spend(7), spend(7))
	add(t, j, spend(7))
	check(t, open(t, b, d), 10, append(all, spend(7), spend(7), spend(7)), 45-len(all))
}

// P11.1, P11.2: the bytes of each sector that is left.
func TestBytes(t *testing.T) {
	for _, before := range []int{0, 1, 254, 300, 65400} {
		b, d := startAt(t, api.MaxTerms, before), blank(t, 40)
		rows := [][]api.Event{samples()[:5], nil, samples()[5:], {spend(1), spend(1)}, {spend(1)}}
		for k, es := range rows {
			j := open(t, b, d)
			if k%2 == 0 {
				add(t, j, es...)
			} else {
				let(t, j, es...)
				d.Flush()
			}
		}
		sectors := image(t, d)
		seq, prev := 0, 0
		for k, es := range rows {
			for _, x := range es {
				seq++
				prev = checkRecord(t, b, sectors[1+seq], seq, k+1, prev, x)
			}
		}
		for at := 2 + seq; at < len(sectors); at++ {
			if sectors[at] != filled("") {
				t.Errorf("sector %d: %x", at, sectors[at])
			}
		}
		if sectors[0] != bootSector(t, b, 5) || sectors[1] != bootSector(t, b, 4) {
			t.Errorf("slots: %x, %x", sectors[0], sectors[1])
		}
		// Of each boot and each record a hash, and no other term.
		if n := before + len(rows) + seq; b.Len() != n {
			t.Errorf("%d terms, want %d", b.Len(), n)
		}
	}
}

// P11.1: the new boot stands in the slot that doesn't hold the last one, which stays.
func TestSlots(t *testing.T) {
	b, d := start(t, 1000), blank(t, 3)
	for boot := 1; boot < 20; boot++ {
		was := image(t, d)
		check(t, open(t, b, d), boot, nil, 1)
		is := image(t, d)
		place := (boot + 1) % 2
		if is[place] != bootSector(t, b, boot) || is[1-place] != was[1-place] || is[2] != was[2] {
			t.Errorf("boot %d: %x, want it in slot %d", boot, is, place)
		}
		if d.Waits() != 0 {
			t.Errorf("boot %d: %d wait", boot, d.Waits())
		}
	}
}

// P11.1: slots as they may stand, and what comes of them.
func TestSlotsLaid(t *testing.T) {
	b := start(t, 1000)
	for _, boot := range []int{1, 2, 3, 5, 7, 255, 256, 300, 1022} {
		hash(t, b, "super"+num(boot))
	}
	for _, c := range []struct{ one, two, boot, place int }{
		{0, 0, 1, 0}, {0, 1, 2, 0}, {1, 0, 2, 1}, {0, 5, 6, 0}, {5, 0, 6, 1}, {5, 5, 6, 1}, {1, 1, 2, 1},
		{7, 3, 8, 1}, {3, 7, 8, 0}, {2, 1, 3, 1}, {1, 2, 3, 0}, {255, 256, 257, 0}, {256, 255, 257, 1}, {300, 255, 301, 1}, {1022, 7, 1023, 1}, {7, 1022, 1023, 0},
	} {
		for _, none := range []string{filled(""), filled("\x01\x09"), strings.Repeat("\xff", api.SectorSize), filled("\x01\x01\x01\x01\x00\x01\x02\x01\x08")} {
			sectors := []string{none, none, filled(""), filled("")}
			for place, boot := range []int{c.one, c.two} {
				if boot > 0 {
					sectors[place] = bootSector(t, b, boot)
				}
			}
			d := laid(t, sectors)
			check(t, open(t, b, d), c.boot, nil, 2)
			is := image(t, d)
			if is[c.place] != bootSector(t, b, c.boot) || is[1-c.place] != sectors[1-c.place] {
				t.Errorf("slots %d, %d: %x, want %d in slot %d", c.one, c.two, is[:2], c.boot, c.place)
			}
		}
	}
}

// P11.1 with T2: what Open wrote is there behind any crash.
func TestOpenKept(t *testing.T) {
	for _, mask := range []int{0, 1, 2, 3} {
		for _, torn := range []int{0, 1, 5, 63, 64, 1000} {
			b, d := start(t, 100), blank(t, 5)
			for boot := 1; boot < 6; boot++ {
				check(t, open(t, b, d), boot, nil, 3)
				crash(t, d, mask, torn)
			}
		}
	}
}

// P11.1: what waits on the disk is read, and kept.
func TestOpenWaiting(t *testing.T) {
	b, d := start(t, 100), blank(t, 6)
	j := open(t, b, d)
	add(t, j, spend(1))
	let(t, j, spend(2), spend(3))
	if d.Waits() != 2 {
		t.Fatalf("%d wait", d.Waits())
	}
	check(t, open(t, b, d), 2, spends(1, 3), 1)
	if d.Waits() != 0 {
		t.Errorf("Open: %d wait", d.Waits())
	}
	crash(t, d, 0, 0)
	check(t, open(t, b, d), 3, spends(1, 3), 1)
	checkOver(t, j)
}

// P11.1 with R2, R3, R6: what keeps a disk from being opened, the first of it told.
func TestNoOpen(t *testing.T) {
	b := start(t, 100)
	d, down, small, downSmall := blank(t, 3), blank(t, 3), blank(t, 2), blank(t, 1)
	down.Crash(0, 0)
	downSmall.Crash(0, 0)
	for _, x := range []*disk.Disk{nil, d, down, small, downSmall, new(disk.Disk)} {
		checkNoOpen(t, nil, x, api.ErrNil)
	}
	checkNoOpen(t, b, nil, api.ErrNil)
	checkNoOpen(t, b, down, api.ErrJournalDown)
	checkNoOpen(t, b, downSmall, api.ErrJournalDown)
	for _, n := range []int{1, 2} {
		checkNoOpen(t, b, blank(t, n), api.ErrJournalForm)
	}
	checkNoOpen(t, b, new(disk.Disk), api.ErrJournalForm)
	if b.Len() != 0 || d.Waits() != 0 || !slices.Equal(image(t, d), []string{filled(""), filled(""), filled("")}) {
		t.Errorf("refused: %d terms, %d wait", b.Len(), d.Waits())
	}
	// A book that is full, of a disk that is down or small.
	full := startAt(t, 1, 1)
	checkNoOpen(t, full, down, api.ErrJournalDown)
	checkNoOpen(t, full, small, api.ErrJournalForm)
	checkNoOpen(t, full, d, api.ErrJournalFull)
	down.Restart()
	check(t, open(t, b, down), 1, nil, 1)
}

// P11.1: disks of each size, from the least to the greatest.
func TestSizes(t *testing.T) {
	for n := 1; n <= api.MaxSectors; n++ {
		b, d := start(t, 1000), blank(t, n)
		if n < 3 {
			checkNoOpen(t, b, d, api.ErrJournalForm)
			continue
		}
		j := open(t, b, d)
		check(t, j, 1, nil, n-2)
		add(t, j, spends(0, n-2)...)
		check(t, j, 1, spends(0, n-2), 0)
		j = open(t, b, d)
		check(t, j, 2, spends(0, n-2), 0)
		checkRefused(t, b, d, j, api.ErrJournalFull, spend(n))
		add(t, j)
		check(t, j, 2, spends(0, n-2), 0)
	}
}

// P11.1: the last boot, and one beyond.
func TestLastBoot(t *testing.T) {
	b, d := start(t, 2000), blank(t, 5)
	j := open(t, b, d)
	add(t, j, spend(9))
	for boot := 2; boot <= api.MaxBoots; boot++ {
		j = open(t, b, d)
		check(t, j, boot, spends(9, 1), 2)
	}
	was, terms := image(t, d), b.Len()
	for range 3 {
		checkNoOpen(t, b, d, api.ErrJournalFull)
	}
	// The disk is small and full of boots: its size is told ahead of that.
	checkNoOpen(t, b, laid(t, was[:2]), api.ErrJournalForm)
	if !slices.Equal(image(t, d), was) || b.Len() != terms {
		t.Errorf("refused: %d terms, want %d", b.Len(), terms)
	}
	// The last boot's journal goes on.
	add(t, j, spend(10))
	check(t, j, api.MaxBoots, spends(9, 2), 1)
	name := checkRecord(t, b, image(t, d)[2], 1, 1, 0, spend(9))
	checkRecord(t, b, image(t, d)[3], 2, api.MaxBoots, name, spend(10))
	checkNoOpen(t, b, d, api.ErrJournalFull)
	// With one of its slots gone the disk has a boot to give again.
	lay(t, d, 0, filled(""))
	check(t, open(t, b, d), api.MaxBoots, spends(9, 2), 1)
}

// P11.1: a book in which the boot's hash has no place, and one in which it has one already.
func TestBootHasNoPlace(t *testing.T) {
	for _, most := range []int{1, 2, 10} {
		b, d := startAt(t, most, most), blank(t, 4)
		checkNoOpen(t, b, d, api.ErrJournalFull)
		b = startAt(t, most, most-1)
		j := open(t, b, d)
		check(t, j, 1, nil, 2)
		checkNoOpen(t, b, d, api.ErrJournalFull)
		checkRefused(t, b, d, j, api.ErrJournalFull, spend(1))
		if b.Len() != most || image(t, d)[0] != bootSector(t, b, 1) {
			t.Errorf("%d terms; %x", b.Len(), image(t, d))
		}
		// Boot 1 anew needs no other name.
		check(t, open(t, b, blank(t, 4)), 1, nil, 2)
	}
}

// P11.2: Append of nothing changes nothing, and Write of nothing ends the journal.
func TestNothing(t *testing.T) {
	b, d := start(t, 100), blank(t, 5)
	j := open(t, b, d)
	was := image(t, d)
	for range 3 {
		add(t, j)
		check(t, j, 1, nil, 3)
	}
	add(t, j, spend(1))
	add(t, j, []api.Event{}...)
	check(t, j, 1, spends(1, 1), 2)
	if image(t, d)[0] != was[0] || b.Len() != 2 || d.Waits() != 0 {
		t.Errorf("%d terms, %d wait", b.Len(), d.Waits())
	}
	let(t, j)
	check(t, j, 1, spends(1, 1), 2)
	checkOver(t, j)
	crash(t, d, 0, 0)
	checkOver(t, j)
	check(t, open(t, b, d), 2, spends(1, 1), 2)
}

// P11.2: of just Room, and of one more.
func TestRoom(t *testing.T) {
	for _, n := range []int{3, 4, 7, api.MaxSectors} {
		for first := range min(n-1, 5) {
			b, d := start(t, 1000), blank(t, n)
			j := open(t, b, d)
			add(t, j, spends(0, first)...)
			room := n - 2 - first
			for _, more := range []int{1, 2, 50, 1000} {
				checkRefused(t, b, d, j, api.ErrJournalFull, spends(first, room+more)...)
			}
			check(t, j, 1, spends(0, first), room)
			add(t, j, spends(first, room)...)
			check(t, j, 1, spends(0, n-2), 0)
			checkRefused(t, b, d, j, api.ErrJournalFull, spend(n))
			check(t, open(t, b, d), 2, spends(0, n-2), 0)
		}
	}
}

// P11.2: Write of just Room.
func TestRoomWrite(t *testing.T) {
	for _, n := range []int{3, 4, 7, api.MaxSectors} {
		b, d := start(t, 1000), blank(t, n)
		j := open(t, b, d)
		checkRefused(t, b, d, j, api.ErrJournalFull, spends(0, n-1)...)
		let(t, j, spends(0, n-2)...)
		check(t, j, 1, nil, n-2)
		if d.Waits() != n-2 {
			t.Errorf("%d wait, want %d", d.Waits(), n-2)
		}
		check(t, open(t, b, d), 2, spends(0, n-2), 0)
	}
}

// P11.2: an event that may not be, at each place of a row.
func TestNoEvents(t *testing.T) {
	b, d := start(t, 100), blank(t, 10)
	j := open(t, b, d)
	add(t, j, spend(1))
	for _, x := range noEvents {
		checkRefused(t, b, d, j, api.ErrJournalForm, x)
		for n := 1; n < 7; n++ {
			for place := range n + 1 {
				checkRefused(t, b, d, j, api.ErrJournalForm, slices.Insert(spends(2, n), place, x)...)
			}
		}
	}
	add(t, j, spend(2))
	check(t, open(t, b, d), 2, spends(1, 2), 6)
}

// P11.2: a book that fills up in the midst of a row: none of the row is there, and the
// names that were made ahead stay.
func TestFillsUp(t *testing.T) {
	for free := range 5 {
		for _, call := range []func(*Journal, ...api.Event) api.Errno{(*Journal).Append, (*Journal).Write} {
			// The next boot's hash has a name ahead, so that the book may be full then.
			b, d := startAt(t, 20, 16-free), blank(t, 12)
			hash(t, b, "super"+num(2))
			j := open(t, b, d)
			add(t, j, spends(1, 2)...)
			was := image(t, d)
			for n := free + 1; n < 8; n++ {
				if e := call(j, spends(3, n)...); e != api.ErrJournalFull {
					t.Errorf("%d events, room for %d names: %d", n, free, e)
				}
				check(t, j, 1, spends(1, 2), 8)
				if b.Len() != 20 || d.Waits() != 0 || !slices.Equal(image(t, d), was) {
					t.Errorf("%d events, room for %d names: %d terms, %d wait", n, free, b.Len(), d.Waits())
				}
			}
			// Others have no place, nor have those in another row.
			checkRefused(t, b, d, j, api.ErrJournalFull, spend(99))
			checkRefused(t, b, d, j, api.ErrJournalFull, spend(4), spend(3))
			prev := checkRecord(t, b, was[3], 2, 1, checkRecord(t, b, was[2], 1, 1, 0, spend(1)), spend(2))
			for k := range free {
				name, is := b.Find("H" + recordHash(t, 3+k, 1, prev, spend(3+k)))
				if !is || name != 20-free+k {
					t.Errorf("name %d of %d: %d, %v", k, free, name, is)
				}
				prev = name
			}
			// What has names is taken.
			if e := call(j, spends(3, free)...); e != api.OK {
				t.Errorf("%d events with names: %d", free, e)
			}
			check(t, open(t, b, d), 2, spends(1, 2+free), 8-free)
		}
	}
}

// P11.2 with R6: of several errors the first is told.
func TestSeveral(t *testing.T) {
	bad := noEvents[0]
	b, d := startAt(t, 10, 7), blank(t, 4)
	j := open(t, b, d)
	add(t, j, spend(1))
	// One more name, room for one more record.
	checkRefused(t, b, d, j, api.ErrJournalForm, bad, spend(2), spend(3))
	checkRefused(t, b, d, j, api.ErrJournalForm, spend(2), spend(3), bad)
	checkRefused(t, b, d, j, api.ErrJournalForm, append(spends(2, 300), bad)...)
	checkRefused(t, b, d, j, api.ErrJournalFull, spends(2, 2)...)
	if b.Len() != 9 {
		t.Errorf("%d terms", b.Len())
	}
	if _, e := b.Name("the last"); e != api.OK {
		t.Fatal(e)
	}
	checkRefused(t, b, d, j, api.ErrJournalForm, bad)
	checkRefused(t, b, d, j, api.ErrJournalForm, spend(2), bad)
	checkRefused(t, b, d, j, api.ErrJournalFull, spend(2))
	d.Crash(0, 0)
	checkOver(t, j)
	d.Restart()
	checkRefused(t, b, d, j, api.ErrJournalForm, spend(2), bad)
	// A row with no new name.
	let(t, j)
	d.Crash(0, 0)
	checkOver(t, j)
	d.Restart()
	checkOver(t, j)
}

// P11.2: a disk that is down takes nothing; it doesn't end the journal.
func TestDown(t *testing.T) {
	b, d := start(t, 100), blank(t, 10)
	j := open(t, b, d)
	add(t, j, spends(1, 2)...)
	for k := range 3 {
		terms := b.Len()
		if e := d.Crash(k, k); e != api.OK {
			t.Fatal(e)
		}
		checkOver(t, j)
		check(t, j, 1, spends(1, 2+k), 6-k)
		if b.Len() != terms {
			t.Errorf("%d terms, want %d", b.Len(), terms)
		}
		checkNoOpen(t, b, d, api.ErrJournalDown)
		if e := d.Restart(); e != api.OK {
			t.Fatal(e)
		}
		add(t, j, spend(3+k))
	}
	check(t, open(t, b, d), 2, spends(1, 5), 3)
}

// P11.2: Write lets its records wait, changes nothing that the journal tells, and ends it.
func TestWrite(t *testing.T) {
	for n := range 6 {
		b, d := start(t, 100), blank(t, 10)
		j := open(t, b, d)
		add(t, j, spends(1, 2)...)
		was, terms := image(t, d), b.Len()
		let(t, j, spends(3, n)...)
		check(t, j, 1, spends(1, 2), 6)
		if d.Waits() != n || b.Len() != terms+n {
			t.Errorf("Write of %d: %d wait, %d terms", n, d.Waits(), b.Len())
		}
		sectors := image(t, d)
		prev := checkRecord(t, b, sectors[3], 2, 1, checkRecord(t, b, sectors[2], 1, 1, 0, spend(1)), spend(2))
		for k := range n {
			prev = checkRecord(t, b, sectors[4+k], 3+k, 1, prev, spend(3+k))
		}
		for at := range sectors {
			if (at < 4 || at >= 4+n) && sectors[at] != was[at] {
				t.Errorf("Write of %d: sector %d: %x", n, at, sectors[at])
			}
		}
		checkOver(t, j)
		if d.Waits() != n || b.Len() != terms+n || !slices.Equal(image(t, d), sectors) {
			t.Errorf("over: %d wait, %d terms", d.Waits(), b.Len())
		}
		crash(t, d, 0, 0)
		if !slices.Equal(image(t, d), was) {
			t.Errorf("Write of %d: flushed", n)
		}
		checkOver(t, j)
		check(t, j, 1, spends(1, 2), 6)
		check(t, open(t, b, d), 2, spends(1, 2), 6)
		checkOver(t, j)
	}
}

// P11.2: behind a Write that was refused the journal goes on.
func TestWriteRefused(t *testing.T) {
	b, d := start(t, 5), blank(t, 5)
	j := open(t, b, d)
	for _, c := range []struct {
		es []api.Event
		e  api.Errno
	}{{[]api.Event{noEvents[0]}, api.ErrJournalForm}, {spends(1, 4), api.ErrJournalFull}, {spends(1, 400), api.ErrJournalFull}} {
		if e := j.Write(c.es...); e != c.e {
			t.Errorf("Write: %d, want %d", e, c.e)
		}
		add(t, j)
	}
	d.Crash(0, 0)
	if e := j.Write(spend(1)); e != api.ErrJournalDown {
		t.Errorf("Write: %d", e)
	}
	d.Restart()
	add(t, j, spend(1))
	// Of its names one is left, too few for two.
	if _, e := b.Name("x"); e != api.OK {
		t.Fatal(e)
	}
	if e := j.Write(spend(2), spend(3), spend(4)); e != api.ErrJournalFull {
		t.Errorf("Write: %d", e)
	}
	hash(t, b, "y")
	if e := j.Write(spend(2), spend(3)); e != api.ErrJournalFull {
		t.Errorf("Write: %d", e)
	}
	add(t, j, spend(2))
	check(t, j, 1, spends(1, 2), 1)
	let(t, j, []api.Event{}...)
	checkOver(t, j)
}

// P11.1 to P11.3 with R3: a nil journal.
func TestNil(t *testing.T) {
	var j *Journal
	for _, es := range [][]api.Event{nil, {spend(1)}, {noEvents[0]}, spends(1, 300)} {
		if e, f := j.Append(es...), j.Write(es...); e != api.ErrNil || f != e {
			t.Errorf("Append, Write: %d, %d, want ErrNil", e, f)
		}
	}
	if j.Events() != nil || j.Boot() != 0 || j.Room() != 0 {
		t.Errorf("%v, %d, %d", j.Events(), j.Boot(), j.Room())
	}
}

// P11.2, P11.3 with R1: a journal that Open did not make has no disk.
func TestUnmade(t *testing.T) {
	j := new(Journal)
	checkOver(t, j)
	check(t, j, 0, nil, 0)
}

// P11.2, P11.3 with R4: what is handed in stays and isn't kept, and what is told is told anew.
func TestOwn(t *testing.T) {
	b, d := start(t, 100), blank(t, 20)
	j := open(t, b, d)
	es := spends(1, 6)
	add(t, j, es[:2]...)
	add(t, j, es[2:3]...)
	if !slices.Equal(es, spends(1, 6)) {
		t.Errorf("Append: %v", es)
	}
	es[0], es[1], es[2] = spend(91), spend(92), spend(93)
	check(t, j, 1, spends(1, 3), 15)
	one, two := j.Events(), j.Events()
	one[0] = spend(94)
	_ = append(one[:1], spend(95))
	check(t, j, 1, spends(1, 3), 15)
	if !slices.Equal(two, spends(1, 3)) {
		t.Errorf("Events: %v", two)
	}
	// Nothing that was told grows into what is told later.
	_ = append(two, spends(96, 3)...)
	add(t, j, j.Events()...)
	check(t, j, 1, append(spends(1, 3), spends(1, 3)...), 12)
	if !slices.Equal(two, spends(1, 3)) {
		t.Errorf("Events: %v", two)
	}
	es = spends(7, 5)
	let(t, j, es[:3]...)
	if !slices.Equal(es, spends(7, 5)) {
		t.Errorf("Write: %v", es)
	}
	es[0] = spend(99)
	j = open(t, b, d)
	want := slices.Concat(spends(1, 3), spends(1, 3), spends(7, 3))
	got := j.Events()
	if !slices.Equal(got, want) {
		t.Errorf("Events: %v", got)
	}
	clear(got)
	_ = append(j.Events(), spends(96, 3)...)
	check(t, j, 2, want, 9)
	add(t, j, spend(10))
	check(t, j, 2, append(want, spend(10)), 8)
}

// P11.1 to P11.3 with R5: journals of one book on disks of their own, in turns.
func TestTurns(t *testing.T) {
	b := start(t, 1000)
	disks, js, rows := []*disk.Disk{}, []*Journal{}, make([][]api.Event, 3)
	for k := range rows {
		disks = append(disks, blank(t, 20+k))
		js = append(js, open(t, b, disks[k]))
	}
	for n := range 10 {
		for k, j := range js {
			es := spends(n*k, n%3)
			add(t, j, es...)
			rows[k] = append(rows[k], es...)
			check(t, j, 1, rows[k], 18+k-len(rows[k]))
		}
	}
	for k, d := range disks {
		check(t, open(t, b, d), 2, rows[k], 18+k-len(rows[k]))
	}
}

// P11.1 with R5: disks opened from several goroutines, each with a book of its own.
func TestGoroutines(t *testing.T) {
	var all sync.WaitGroup
	for k := range 8 {
		b, d := start(t, 100), blank(t, 20)
		all.Go(func() {
			for boot := 1; boot < 10; boot++ {
				j, e := Open(b, d)
				if e != api.OK || j.Boot() != boot || j.Append(spend(k+boot)) != api.OK || len(j.Events()) != boot {
					t.Errorf("boot %d: %d", boot, e)
					return
				}
			}
		})
	}
	all.Wait()
}
