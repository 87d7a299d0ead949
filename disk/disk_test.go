package disk

import (
	"math"
	"slices"
	"strconv"
	"strings"
	"sync"
	"testing"
	"unsafe"

	"bastion/api"
)

// noSectors are numbers of no sector, whatever the disk.
var noSectors = []int{-1, -2, -api.MaxSectors, math.MinInt32, math.MinInt, api.MaxSectors, api.MaxSectors + 1, math.MaxInt32, 1 << 32, 1 << 40, math.MaxInt}

// noTexts are texts that have not SectorSize bytes.
func noTexts() []string {
	return []string{
		"", "a", "\x00", full('a')[1:], full('a') + "a", full('a') + "\x00", full('a') + full('a'),
		strings.Repeat("a", 1<<20),
		// As many runes as a sector has bytes.
		strings.Repeat("\xc3\xa9", api.SectorSize),
	}
}

// full is a text of one byte, again and again.
func full(c byte) string {
	return strings.Repeat(string([]byte{c}), api.SectorSize)
}

// row is a text of bytes that differ, another for each number below 1<<24; those of
// numbers near each other differ in every byte.
func row(n int) string {
	var out []byte
	for i := range api.SectorSize {
		out = append(out, byte(n*67+i*3+(n>>8)*(i%2)+(n>>16)*(i%4/2)))
	}
	return string(out)
}

// put is a write as a test tells it.
type put struct {
	at int
	s  string
}

// start gives a new disk of so many sectors.
func start(t *testing.T, sectors int) *Disk {
	t.Helper()
	d, e := New(sectors)
	if d == nil || e != api.OK {
		t.Fatalf("New(%d): %d", sectors, e)
	}
	return d
}

// check tells whether an error is the one that should be.
func check(t *testing.T, call string, got, want api.Errno) {
	t.Helper()
	if got != want {
		t.Errorf("%s: %d, want %d", call, got, want)
	}
}

// writes writes all, and looks at Waits behind each.
func writes(t *testing.T, d *Disk, all ...put) {
	t.Helper()
	for _, p := range all {
		waits := d.Waits()
		check(t, "Write", d.Write(p.at, p.s), api.OK)
		checkWaits(t, d, waits+1)
	}
}

func checkWaits(t *testing.T, d *Disk, want int) {
	t.Helper()
	if got := d.Waits(); got != want {
		t.Errorf("Waits: %d, want %d", got, want)
	}
}

func checkRead(t *testing.T, d *Disk, sector int, s string, e api.Errno) {
	t.Helper()
	if got, f := d.Read(sector); got != s || f != e {
		t.Errorf("Read(%d): %x, %d, want %x, %d", sector, got, f, s, e)
	}
}

// checkAll tells that a disk's sectors read as these, that there are no others, and
// how many writes wait.
func checkAll(t *testing.T, d *Disk, waits int, all ...string) {
	t.Helper()
	for at, s := range all {
		checkRead(t, d, at, s, api.OK)
	}
	for _, at := range slices.Concat(noSectors, []int{len(all), len(all) + 1}) {
		checkRead(t, d, at, "", api.ErrDiskForm)
	}
	checkWaits(t, d, waits)
}

// checkKept tells what a crash leaves that keeps nothing of what waits.
func checkKept(t *testing.T, d *Disk, all ...string) {
	t.Helper()
	crash(t, d, 0, 0)
	checkAll(t, d, 0, all...)
}

// crash takes a disk down and up again.
func crash(t *testing.T, d *Disk, mask, torn int) {
	t.Helper()
	check(t, "Crash", d.Crash(mask, torn), api.OK)
	checkWaits(t, d, 0)
	check(t, "Restart", d.Restart(), api.OK)
	checkWaits(t, d, 0)
}

// left tells what a crash leaves of what was kept and what waited: the chapter's
// words, byte by byte.
func left(kept []string, waits []put, mask, torn int) []string {
	var all [][]byte
	for _, s := range kept {
		all = append(all, []byte(s))
	}
	bits := strconv.FormatUint(uint64(mask), 2)
	first := true
	for i, p := range waits {
		n := 0
		if i < 30 && i < len(bits) && bits[len(bits)-1-i] == '1' {
			n = api.SectorSize
		} else if first {
			n, first = torn, false
		}
		for k := range api.SectorSize {
			if k < n {
				all[p.at][k] = p.s[k]
			}
		}
	}
	var out []string
	for _, b := range all {
		out = append(out, string(b))
	}
	return out
}

// checkCrash crashes a new disk on which some was kept, and some waited.
func checkCrash(t *testing.T, kept []string, waits []put, mask, torn int) {
	t.Helper()
	d := start(t, len(kept))
	for at, s := range kept {
		d.Write(at, s)
	}
	check(t, "Flush", d.Flush(), api.OK)
	for _, p := range waits {
		d.Write(p.at, p.s)
	}
	checkWaits(t, d, len(waits))
	crash(t, d, mask, torn)
	for at, s := range left(kept, waits, mask, torn) {
		if got, e := d.Read(at); got != s || e != api.OK {
			t.Errorf("%d writes, mask %b, torn %d: Read(%d): %x, %d, want %x", len(waits), mask, torn, at, got, e, s)
		}
	}
}

// P8.1: a new disk has so many sectors, of bytes 0, all kept.
func TestNew(t *testing.T) {
	zero := "\x00\x00\x00\x00\x00\x00\x00\x00\x00\x00\x00\x00\x00\x00\x00\x00"
	zero += zero + zero + zero
	for _, n := range []int{1, 2, 3, 100, 255, 256} {
		d := start(t, n)
		all := slices.Repeat([]string{zero}, n)
		checkAll(t, d, 0, all...)
		check(t, "Restart", d.Restart(), api.ErrDiskForm)
		check(t, "Flush", d.Flush(), api.OK)
		checkAll(t, d, 0, all...)
		checkKept(t, d, all...)
		checkKept(t, start(t, n), all...)
	}
}

// P8.1: what is no number of sectors.
func TestNewForm(t *testing.T) {
	for _, n := range []int{0, -1, -2, -256, math.MinInt32, math.MinInt, 257, 258, 512, 65537, 1 << 32, 1<<32 + 1, math.MaxInt} {
		if d, e := New(n); d != nil || e != api.ErrDiskForm {
			t.Errorf("New(%d): %v, %d, want ErrDiskForm", n, d, e)
		}
	}
}

// P8.1: two disks have nothing in common.
func TestTwo(t *testing.T) {
	a, b := start(t, 2), start(t, 2)
	writes(t, a, put{0, full('a')})
	checkAll(t, b, 0, full(0), full(0))
	check(t, "Flush", a.Flush(), api.OK)
	check(t, "Crash", a.Crash(0, 0), api.OK)
	checkAll(t, b, 0, full(0), full(0))
	writes(t, b, put{1, full('b')})
	check(t, "Restart", a.Restart(), api.OK)
	checkAll(t, a, 0, full('a'), full(0))
	checkAll(t, b, 1, full(0), full('b'))
}

// P8.1: the first sector and the last one, on small disks and the greatest one.
func TestWrite(t *testing.T) {
	for _, n := range []int{1, 2, 3, 256} {
		d := start(t, n)
		all := slices.Repeat([]string{full(0)}, n)
		writes(t, d, put{0, row(1)})
		all[0] = row(1)
		checkAll(t, d, 1, all...)
		writes(t, d, put{n - 1, row(2)})
		all[n-1] = row(2)
		checkAll(t, d, 2, all...)
		for at := range all {
			writes(t, d, put{at, row(3 + at)})
			all[at] = row(3 + at)
		}
		checkAll(t, d, 2+n, all...)
		check(t, "Flush", d.Flush(), api.OK)
		checkAll(t, d, 0, all...)
		checkKept(t, d, all...)
	}
}

// P8.1: any bytes are written as they are.
func TestWriteBytes(t *testing.T) {
	texts := []string{
		full(0), full(0xff), full('\n'), full(0x80), full(0xc3),
		strings.Repeat("\xc3\xa9", api.SectorSize/2), strings.Repeat("\xef\xbf\xbdx", api.SectorSize/4),
		full('a')[1:] + "\x00", "\x00" + full('a')[1:], full(' '),
	}
	for from := 0; from < 256; from += api.SectorSize {
		var b []byte
		for k := range api.SectorSize {
			b = append(b, byte(from+k))
		}
		texts = append(texts, string(b))
	}
	d := start(t, len(texts))
	for at, s := range texts {
		writes(t, d, put{at, s})
		checkRead(t, d, at, s, api.OK)
	}
	checkAll(t, d, len(texts), texts...)
	check(t, "Flush", d.Flush(), api.OK)
	checkKept(t, d, texts...)
	for at, s := range texts {
		writes(t, d, put{len(texts) - 1 - at, s})
	}
	slices.Reverse(texts)
	check(t, "Crash", d.Crash(1<<30-1, 0), api.OK)
	check(t, "Restart", d.Restart(), api.OK)
	checkAll(t, d, 0, texts...)
}

// P8.1: what is no sector, or no text of one; it turns nothing.
func TestWriteForm(t *testing.T) {
	for _, n := range []int{1, 2, 256} {
		d := start(t, n)
		all := slices.Repeat([]string{full(0)}, n)
		writes(t, d, put{n - 1, row(1)})
		all[n-1] = row(1)
		for _, at := range slices.Concat(noSectors, []int{n, n + 1}) {
			for _, s := range append(noTexts(), full('x')) {
				check(t, "Write", d.Write(at, s), api.ErrDiskForm)
				checkWaits(t, d, 1)
			}
		}
		for _, s := range noTexts() {
			check(t, "Write", d.Write(0, s), api.ErrDiskForm)
			check(t, "Write", d.Write(n-1, s), api.ErrDiskForm)
			checkWaits(t, d, 1)
		}
		checkAll(t, d, 1, all...)
		// A write that was refused has no place in the row.
		writes(t, d, put{0, row(2)})
		crash(t, d, 2, 0)
		all[n-1], all[0] = full(0), row(2)
		checkAll(t, d, 0, all...)
	}
}

// P8.1: of several writes for one sector the last one is told, and is kept.
func TestRow(t *testing.T) {
	d := start(t, 3)
	writes(t, d, put{1, row(1)})
	checkAll(t, d, 1, full(0), row(1), full(0))
	writes(t, d, put{1, row(2)}, put{0, row(3)})
	checkAll(t, d, 3, row(3), row(2), full(0))
	writes(t, d, put{1, row(1)}, put{2, row(4)}, put{0, row(5)})
	checkAll(t, d, 6, row(5), row(1), row(4))
	// The same once more waits, too.
	writes(t, d, put{0, row(5)}, put{0, row(5)})
	checkAll(t, d, 8, row(5), row(1), row(4))
	check(t, "Flush", d.Flush(), api.OK)
	checkAll(t, d, 0, row(5), row(1), row(4))
	checkKept(t, d, row(5), row(1), row(4))
}

// P8.1: what is flushed is kept, and what is written behind that waits.
func TestFlush(t *testing.T) {
	d := start(t, 2)
	check(t, "Flush", d.Flush(), api.OK)
	checkAll(t, d, 0, full(0), full(0))
	writes(t, d, put{0, row(1)}, put{1, row(2)})
	check(t, "Flush", d.Flush(), api.OK)
	check(t, "Flush", d.Flush(), api.OK)
	checkAll(t, d, 0, row(1), row(2))
	writes(t, d, put{0, row(3)})
	checkAll(t, d, 1, row(3), row(2))
	checkKept(t, d, row(1), row(2))
	writes(t, d, put{1, row(4)})
	check(t, "Flush", d.Flush(), api.OK)
	writes(t, d, put{1, row(5)}, put{1, row(6)})
	checkAll(t, d, 2, row(1), row(6))
	checkKept(t, d, row(1), row(4))
	// A flush keeps nothing of what a crash lost.
	check(t, "Flush", d.Flush(), api.OK)
	checkAll(t, d, 0, row(1), row(4))
	checkKept(t, d, row(1), row(4))
}

// P8.1: nothing is turned by asking.
func TestRead(t *testing.T) {
	d := start(t, 2)
	writes(t, d, put{1, row(1)})
	for range 3 {
		checkAll(t, d, 1, full(0), row(1))
	}
	checkKept(t, d, full(0), full(0))
	for range 3 {
		checkAll(t, d, 0, full(0), full(0))
	}
}

// P8.2: each mask over rows of up to five writes, torn at every edge.
func TestCrashMasks(t *testing.T) {
	kept := []string{row(100), row(101), row(102)}
	rows := [][]int{
		{}, {0}, {2}, {0, 0}, {0, 1}, {1, 1, 1}, {0, 1, 0}, {2, 1, 0},
		{0, 0, 1, 1}, {0, 1, 0, 1}, {1, 1, 1, 1, 1}, {0, 1, 2, 0, 1}, {2, 2, 0, 2, 2},
	}
	for _, ats := range rows {
		var waits []put
		for i, at := range ats {
			waits = append(waits, put{at, row(i)})
		}
		// One bit more than there are writes.
		for mask := range 1 << (len(ats) + 1) {
			for _, torn := range []int{0, 1, 2, 32, 63, 64, 65, 128, api.MaxNum, math.MaxInt} {
				checkCrash(t, kept, waits, mask, torn)
			}
		}
	}
}

// P8.2: the first that is not kept lies torn over what is kept there, and under what
// is kept of those behind it; others that are not kept are lost whole.
func TestCrashTorn(t *testing.T) {
	a, b, c := full('a'), full('b'), full('c')
	for _, x := range []struct {
		mask, torn int
		want       string
	}{
		{0, 0, full(0)},
		{0, 5, a[:5] + full(0)[5:]},
		{0, 63, a[:63] + "\x00"},
		{0, 64, a},
		{0, 65, a},
		{1, 0, a},
		{1, 5, b[:5] + a[5:]},
		{1, 64, b},
		{2, 0, b},
		{2, 5, b},
		{2, 64, b},
		{3, 0, b},
		{3, 5, c[:5] + b[5:]},
		{3, 64, c},
		{4, 5, c},
		{5, 0, c},
		{5, 5, c},
		{6, 5, c},
		{7, 0, c},
		{7, 5, c},
		{8, 5, a[:5] + full(0)[5:]},
	} {
		d := start(t, 1)
		writes(t, d, put{0, a}, put{0, b}, put{0, c})
		crash(t, d, x.mask, x.torn)
		if got, e := d.Read(0); got != x.want || e != api.OK {
			t.Errorf("mask %b, torn %d: %q, %d, want %q", x.mask, x.torn, got, e, x.want)
		}
	}
}

// P8.2: each torn number tears there.
func TestCrashEachTorn(t *testing.T) {
	for torn := range 2*api.SectorSize + 1 {
		d := start(t, 2)
		writes(t, d, put{0, row(1)})
		check(t, "Flush", d.Flush(), api.OK)
		writes(t, d, put{0, row(2)}, put{1, row(3)})
		crash(t, d, 0, torn)
		n := min(torn, 64)
		checkAll(t, d, 0, row(2)[:n]+row(1)[n:], full(0))
	}
}

// P8.2: bits from 30 on keep nothing, nor those that no write has.
func TestCrashBits(t *testing.T) {
	const all = 1<<30 - 1
	masks := []int{0, 1, all, all - 1, all >> 1, all ^ 1<<15, 1 << 29, 1 << 30, 1 << 31, 1<<31 - 1, 1 << 32, all << 30, all<<30 | 1, 1 << 61, 1<<62 - 1, 1 << 62, math.MaxInt, math.MaxInt - 1, math.MaxInt ^ 1<<29, math.MaxInt ^ all}
	for _, n := range []int{1, 2, 28, 29, 30, 31, 32, 33, 62, 63, 64, 65, 66, 100, 300} {
		var one, many []put
		var kept []string
		for i := range n {
			one = append(one, put{0, row(i)})
			many = append(many, put{i % 256, row(i)})
			if i < 256 {
				kept = append(kept, row(1000+i))
			}
		}
		for _, mask := range masks {
			for _, torn := range []int{0, 7, 64} {
				checkCrash(t, kept[:1], one, mask, torn)
				checkCrash(t, kept, many, mask, torn)
			}
		}
	}
}

// P8.2: each bit keeps its own write.
func TestCrashEachBit(t *testing.T) {
	const n = 70
	var waits []put
	kept := slices.Repeat([]string{full(0)}, n)
	for i := range n {
		waits = append(waits, put{n - 1 - i, row(i)})
	}
	for bit := range 63 {
		checkCrash(t, kept, waits, 1<<bit, 0)
		checkCrash(t, kept, waits, 1<<bit, 9)
		checkCrash(t, kept, waits, math.MaxInt^1<<bit, 9)
		d := start(t, n)
		writes(t, d, waits...)
		crash(t, d, 1<<bit, 0)
		for i, p := range waits {
			want := full(0)
			if i == bit && bit < 30 {
				want = p.s
			}
			checkRead(t, d, p.at, want, api.OK)
		}
	}
}

// P8.2: what is no mask, or not torn anywhere; it turns nothing.
func TestCrashForm(t *testing.T) {
	d := start(t, 2)
	writes(t, d, put{0, row(1)})
	check(t, "Flush", d.Flush(), api.OK)
	writes(t, d, put{1, row(2)}, put{0, row(3)})
	for _, n := range []int{-1, -2, -64, math.MinInt32, -1 << 40, math.MinInt} {
		for _, m := range []int{n, 0, 1, 64, math.MaxInt} {
			check(t, "Crash", d.Crash(n, m), api.ErrDiskForm)
			check(t, "Crash", d.Crash(m, n), api.ErrDiskForm)
			checkWaits(t, d, 2)
		}
	}
	checkAll(t, d, 2, row(3), row(2))
	check(t, "Restart", d.Restart(), api.ErrDiskForm)
	checkAll(t, d, 2, row(3), row(2))
	crash(t, d, 1, 3)
	checkAll(t, d, 0, row(3)[:3]+row(1)[3:], row(2))
}

// P8.1 and P8.2: what is down tells so, ahead of any form, and turns nothing.
func TestDown(t *testing.T) {
	d := start(t, 2)
	writes(t, d, put{0, row(1)}, put{1, row(2)}, put{1, row(3)})
	check(t, "Crash", d.Crash(2, 4), api.OK)
	for range 2 {
		checkWaits(t, d, 0)
		check(t, "Flush", d.Flush(), api.ErrDiskDown)
		for _, at := range append(noSectors, 0, 1, 2) {
			checkRead(t, d, at, "", api.ErrDiskDown)
			for _, s := range append(noTexts(), full('x')) {
				check(t, "Write", d.Write(at, s), api.ErrDiskDown)
			}
		}
		for _, n := range []int{math.MinInt, -1, 0, 1, 64, math.MaxInt} {
			check(t, "Crash", d.Crash(n, 0), api.ErrDiskDown)
			check(t, "Crash", d.Crash(0, n), api.ErrDiskDown)
			check(t, "Crash", d.Crash(n, n), api.ErrDiskDown)
		}
		checkWaits(t, d, 0)
	}
	check(t, "Restart", d.Restart(), api.OK)
	checkAll(t, d, 0, row(1)[:4]+full(0)[4:], row(2))
	checkKept(t, d, row(1)[:4]+full(0)[4:], row(2))
}

// P8.2: only what is down is taken up; else nothing is turned.
func TestRestart(t *testing.T) {
	d := start(t, 1)
	check(t, "Restart", d.Restart(), api.ErrDiskForm)
	writes(t, d, put{0, row(1)})
	check(t, "Restart", d.Restart(), api.ErrDiskForm)
	checkAll(t, d, 1, row(1))
	for range 3 {
		check(t, "Crash", d.Crash(1, 0), api.OK)
		check(t, "Restart", d.Restart(), api.OK)
		check(t, "Restart", d.Restart(), api.ErrDiskForm)
		check(t, "Restart", d.Restart(), api.ErrDiskForm)
		checkAll(t, d, 0, row(1))
	}
}

// P8.2: behind a crash the row begins anew, and nothing comes back of the old one.
func TestCrashAgain(t *testing.T) {
	d := start(t, 2)
	writes(t, d, put{0, row(1)}, put{1, row(2)})
	crash(t, d, 0, 0)
	checkAll(t, d, 0, full(0), full(0))
	crash(t, d, math.MaxInt, 64)
	checkAll(t, d, 0, full(0), full(0))
	writes(t, d, put{1, row(3)}, put{0, row(4)})
	checkAll(t, d, 2, row(4), row(3))
	crash(t, d, 1, 0)
	checkAll(t, d, 0, full(0), row(3))
	writes(t, d, put{0, row(5)})
	check(t, "Flush", d.Flush(), api.OK)
	// What was flushed is no longer of the row: the first bit is the next write's.
	writes(t, d, put{0, row(6)}, put{1, row(7)})
	crash(t, d, 2, 1)
	checkAll(t, d, 0, row(6)[:1]+row(5)[1:], row(7))
}

// P8.1 and P8.2: rows of calls, held against a row of all that was ever written.
func TestScripts(t *testing.T) {
	seed := uint64(8)
	next := func(n int) int {
		seed = seed*6364136223846793005 + 1442695040888963407
		return int(seed >> 33 % uint64(n))
	}
	for range 200 {
		n := 1 + next(5)
		d := start(t, n)
		kept := slices.Repeat([]string{full(0)}, n)
		var waits []put
		for range 80 {
			switch next(12) {
			case 0:
				check(t, "Flush", d.Flush(), api.OK)
				for _, p := range waits {
					kept[p.at] = p.s
				}
				waits = nil
			case 1:
				mask, torn := next(1<<30)&next(1<<30), next(90)
				crash(t, d, mask, torn)
				kept, waits = left(kept, waits, mask, torn), nil
			default:
				p := put{next(n), row(next(1000))}
				writes(t, d, p)
				waits = append(waits, p)
			}
			want := slices.Clone(kept)
			for _, p := range waits {
				want[p.at] = p.s
			}
			checkAll(t, d, len(waits), want...)
		}
	}
}

// P8.1 with R4: a text that was handed in is not kept, nor changed.
func TestWriteMemory(t *testing.T) {
	whole := []byte(full('a') + "spare")
	room := whole[:api.SectorSize]
	d := start(t, 2)
	writes(t, d, put{0, unsafe.String(&room[0], len(room))})
	room[0], room[63] = 'x', 'y'
	checkAll(t, d, 1, full('a'), full(0))
	check(t, "Flush", d.Flush(), api.OK)
	room[1] = 'z'
	checkAll(t, d, 0, full('a'), full(0))
	held := string(whole)
	writes(t, d, put{0, unsafe.String(&room[0], len(room))}, put{1, full('b')})
	crash(t, d, 2, 40)
	if string(whole) != held {
		t.Errorf("Write: %q, was %q", whole, held)
	}
	room[2] = 'w'
	checkAll(t, d, 0, held[:40]+full('a')[40:], full('b'))
}

// P8.1 with R4: what a caller holds is not turned by later calls, and shares no memory
// with another answer.
func TestReadMemory(t *testing.T) {
	d := start(t, 1)
	var answers, want []string
	hold := func(s string) {
		t.Helper()
		for range 2 {
			got, e := d.Read(0)
			if got != s || e != api.OK {
				t.Errorf("Read: %x, %d, want %x", got, e, s)
			}
			answers, want = append(answers, got), append(want, strings.Clone(s))
		}
	}
	hold(full(0))
	writes(t, d, put{0, row(1)})
	hold(row(1))
	check(t, "Flush", d.Flush(), api.OK)
	hold(row(1))
	writes(t, d, put{0, row(2)}, put{0, row(3)})
	hold(row(3))
	crash(t, d, 1, 5)
	hold(row(3)[:5] + row(2)[5:])
	writes(t, d, put{0, row(4)})
	crash(t, d, 0, 0)
	hold(row(3)[:5] + row(2)[5:])
	if !slices.Equal(answers, want) {
		t.Errorf("Read: %x, were %x", answers, want)
	}
	places := map[*byte]int{}
	for _, s := range answers {
		places[unsafe.StringData(s)]++
	}
	if len(places) != len(answers) {
		t.Errorf("Read: %d answers in %d places", len(answers), len(places))
	}
}

// P8.1: a row that is long: each call ends in a time that hangs not on the row.
func TestLong(t *testing.T) {
	const n = 1 << 18
	d := start(t, api.MaxSectors)
	last := api.MaxSectors - 1
	for i := range n {
		if e := d.Write(i%last, row(i)); e != api.OK || d.Waits() != i+1 {
			t.Fatalf("Write: %d, %d waits, want %d", e, d.Waits(), i+1)
		}
		for _, at := range []int{0, last} {
			if s, e := d.Read(at); e != api.OK || at == last && s != full(0) {
				t.Fatalf("Read(%d): %x, %d", at, s, e)
			}
		}
	}
	check(t, "Flush", d.Flush(), api.OK)
	checkWaits(t, d, 0)
	crash(t, d, 0, 0)
	for i := n - last; i < n; i++ {
		checkRead(t, d, i%last, row(i), api.OK)
	}
	for i := range n {
		d.Write(i%last, row(n+i))
	}
	crash(t, d, math.MaxInt, 10)
	for at := range last {
		want := row(n - 1 - (n-1-at)%last)
		switch {
		case at < 30:
			want = row(n + at)
		case at == 30:
			want = row(n + 30)[:10] + want[10:]
		}
		checkRead(t, d, at, want, api.OK)
	}
	checkRead(t, d, last, full(0), api.OK)
}

// R3: calls of a nil disk.
func TestNil(t *testing.T) {
	var d *Disk
	for _, n := range []int{0, -1, 1, api.MaxSectors} {
		checkRead(t, d, n, "", api.ErrNil)
		check(t, "Write", d.Write(n, ""), api.ErrNil)
		check(t, "Write", d.Write(n, full('a')), api.ErrNil)
		check(t, "Crash", d.Crash(n, n), api.ErrNil)
	}
	check(t, "Flush", d.Flush(), api.ErrNil)
	check(t, "Restart", d.Restart(), api.ErrNil)
	checkWaits(t, d, 0)
}

// R1: a disk that New didn't make has no sectors.
func TestZero(t *testing.T) {
	d := &Disk{}
	checkAll(t, d, 0)
	check(t, "Write", d.Write(0, full('a')), api.ErrDiskForm)
	check(t, "Flush", d.Flush(), api.OK)
	check(t, "Restart", d.Restart(), api.ErrDiskForm)
	checkKept(t, d)
}

// R5: several goroutines at one time, each with a disk.
func TestAtOneTime(t *testing.T) {
	var all sync.WaitGroup
	for k := range 8 {
		all.Go(func() {
			d, e := New(3)
			if e != api.OK {
				t.Errorf("New: %d", e)
				return
			}
			for i := range 100 {
				writes(t, d, put{i % 3, row(k*1000 + i)}, put{i % 3, row(k*1000 + i + 1)})
				crash(t, d, 1, 8)
				checkRead(t, d, i%3, row(k*1000 + i + 1)[:8]+row(k*1000 + i)[8:], api.OK)
			}
		})
	}
	all.Wait()
}
