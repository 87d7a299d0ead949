package event

import (
	"math"
	"strconv"
	"strings"
	"sync"
	"testing"

	"bastion/api"
)

// Numbers with their bytes, written out.
const (
	maxNum     = "\x04\x3f\xff\xff\xff"
	overNum    = "\x04\x40\x00\x00\x00"
	maxQuota   = "\x03\x10\x00\x00"
	overQuota  = "\x03\x10\x00\x01"
	maxTick    = "\x03\x0f\xff\xff"
	overTick   = "\x03\x10\x00\x00"
	threeFifty = "\x02\x01\x5e"
)

// number is one of an event's numbers: its name, and where it stands.
type number struct {
	name string
	at   func(*api.Event) *int
}

// all are an event's numbers, but for its kind.
var all = []number{
	{"Session", func(e *api.Event) *int { return &e.Session }},
	{"User", func(e *api.Event) *int { return &e.User }},
	{"Address", func(e *api.Event) *int { return &e.Address }},
	{"A", func(e *api.Event) *int { return &e.A }},
	{"B", func(e *api.Event) *int { return &e.B }},
	{"C", func(e *api.Event) *int { return &e.C }},
	{"Tick", func(e *api.Event) *int { return &e.Tick }},
}

// part is a number that a kind names, and the greatest that it may be there.
type part struct {
	name string
	most int
}

// kinds are the kinds with their bytes and their numbers in their row.
var kinds = []struct {
	kind int
	s    string
	row  []part
}{
	{api.EvBoot, "\x00", []part{{"Tick", 1048575}}},
	{api.EvUser, "\x01\x01", []part{{"User", 7}, {"A", 1073741823}, {"B", 1073741823}, {"C", 1048576}}},
	{api.EvFail, "\x01\x02", []part{{"User", 7}, {"Tick", 1048575}}},
	{api.EvPass, "\x01\x03", []part{{"User", 7}, {"A", 1073741823}}},
	{api.EvUnlock, "\x01\x04", []part{{"User", 7}}},
	{api.EvLease, "\x01\x05", []part{{"Session", 1073741823}, {"User", 7}, {"Address", 15}, {"Tick", 1048575}}},
	{api.EvClose, "\x01\x06", []part{{"Session", 1073741823}, {"A", 1073741823}, {"B", 4}, {"Tick", 1048575}}},
	{api.EvRevoke, "\x01\x07", []part{{"User", 7}}},
	{api.EvRotate, "\x01\x08", nil},
	{api.EvSpend, "\x01\x09", []part{{"Session", 1073741823}}},
}

// noKinds are numbers that are no kinds.
var noKinds = []int{-1, -2, -10, -256, math.MinInt32, math.MinInt, 10, 11, 12, 63, 64, 255, 256, 257, 65536, api.MaxNum, api.MaxNum + 1, 1 << 32, 1<<32 + 1, 1<<32 + 8, math.MaxInt}

// noNumbers are no numbers of layer 1.
var noNumbers = []int{-1, -2, -256, math.MinInt32, math.MinInt, api.MaxNum + 1, math.MaxInt32, 1 << 32, 1<<32 + 1, math.MaxInt}

// find gives the number of a name.
func find(t *testing.T, name string) number {
	t.Helper()
	for _, n := range all {
		if n.name == name {
			return n
		}
	}
	t.Fatalf("no number %s", name)
	return number{}
}

// tell is an event for a message.
func tell(e api.Event) string {
	out := "kind " + strconv.Itoa(e.Kind)
	for _, n := range all {
		if x := *n.at(&e); x != 0 {
			out += ", " + n.name + " " + strconv.Itoa(x)
		}
	}
	return out
}

// checkIs tells that x may be, that its bytes are s, and that it is got from them.
func checkIs(t *testing.T, x api.Event, s string) {
	t.Helper()
	if !May(x) {
		t.Errorf("May of %s: false", tell(x))
	}
	if got, e := Put(x); got != s || e != api.OK {
		t.Errorf("Put of %s: %x, %d, want %x", tell(x), got, e, s)
	}
	if got, e := Get(s); got != x || e != api.OK {
		t.Errorf("Get(%x): %s, %d, want %s", s, tell(got), e, tell(x))
	}
}

// checkNot tells that x may not be.
func checkNot(t *testing.T, x api.Event) {
	t.Helper()
	if May(x) {
		t.Errorf("May of %s: true", tell(x))
	}
	if got, e := Put(x); got != "" || e != api.ErrEventForm {
		t.Errorf("Put of %s: %x, %d, want ErrEventForm", tell(x), got, e)
	}
}

// checkNoGet tells that s is no event's bytes.
func checkNoGet(t *testing.T, s string) {
	t.Helper()
	if got, e := Get(s); got != (api.Event{}) || e != api.ErrEventForm {
		t.Errorf("Get(%x): %s, %d, want ErrEventForm", s, tell(got), e)
	}
}

// checkBack tells that x may be and comes back from its bytes, and gives these.
func checkBack(t *testing.T, x api.Event) string {
	t.Helper()
	s, e := Put(x)
	if !May(x) || s == "" || e != api.OK {
		t.Errorf("Put of %s: %x, %d", tell(x), s, e)
	}
	if got, e := Get(s); got != x || e != api.OK {
		t.Errorf("Get(%x): %s, %d, want %s", s, tell(got), e, tell(x))
	}
	return s
}

// ordinary are events of each kind with their bytes.
var ordinary = []struct {
	x api.Event
	s string
}{
	{api.Event{Kind: api.EvBoot, Tick: 350}, "\x00" + threeFifty},
	{api.Event{Kind: api.EvUser, User: 3, A: 350, B: 65536, C: 5}, "\x01\x01" + "\x01\x03" + threeFifty + "\x03\x01\x00\x00" + "\x01\x05"},
	{api.Event{Kind: api.EvFail, User: 2, Tick: 350}, "\x01\x02" + "\x01\x02" + threeFifty},
	{api.Event{Kind: api.EvPass, User: 4, A: 350}, "\x01\x03" + "\x01\x04" + threeFifty},
	{api.Event{Kind: api.EvUnlock, User: 5}, "\x01\x04" + "\x01\x05"},
	{api.Event{Kind: api.EvLease, Session: 350, User: 1, Address: 12, Tick: 65536}, "\x01\x05" + threeFifty + "\x01\x01" + "\x01\x0c" + "\x03\x01\x00\x00"},
	{api.Event{Kind: api.EvClose, Session: 350, A: 65536, B: api.WhyQuota, Tick: 9}, "\x01\x06" + threeFifty + "\x03\x01\x00\x00" + "\x01\x03" + "\x01\x09"},
	{api.Event{Kind: api.EvRevoke, User: 6}, "\x01\x07" + "\x01\x06"},
	{api.Event{Kind: api.EvRotate}, "\x01\x08"},
	{api.Event{Kind: api.EvSpend, Session: 350}, "\x01\x09" + threeFifty},
	// All parts zero.
	{api.Event{}, "\x00" + "\x00"},
	{api.Event{Kind: api.EvUser}, "\x01\x01" + "\x00\x00\x00\x00"},
	{api.Event{Kind: api.EvFail}, "\x01\x02" + "\x00\x00"},
	{api.Event{Kind: api.EvPass}, "\x01\x03" + "\x00\x00"},
	{api.Event{Kind: api.EvUnlock}, "\x01\x04" + "\x00"},
	{api.Event{Kind: api.EvLease}, "\x01\x05" + "\x00\x00\x00\x00"},
	{api.Event{Kind: api.EvClose}, "\x01\x06" + "\x00\x00\x00\x00"},
	{api.Event{Kind: api.EvRevoke}, "\x01\x07" + "\x00"},
	{api.Event{Kind: api.EvSpend}, "\x01\x09" + "\x00"},
	// All parts the greatest.
	{api.Event{Kind: api.EvBoot, Tick: api.MaxTick}, "\x00" + maxTick},
	{api.Event{Kind: api.EvUser, User: api.MaxUsers - 1, A: api.MaxNum, B: api.MaxNum, C: api.MaxQuota}, "\x01\x01" + "\x01\x07" + maxNum + maxNum + maxQuota},
	{api.Event{Kind: api.EvFail, User: api.MaxUsers - 1, Tick: api.MaxTick}, "\x01\x02" + "\x01\x07" + maxTick},
	{api.Event{Kind: api.EvPass, User: api.MaxUsers - 1, A: api.MaxNum}, "\x01\x03" + "\x01\x07" + maxNum},
	{api.Event{Kind: api.EvUnlock, User: api.MaxUsers - 1}, "\x01\x04" + "\x01\x07"},
	{api.Event{Kind: api.EvLease, Session: api.MaxNum, User: api.MaxUsers - 1, Address: api.MaxAddresses - 1, Tick: api.MaxTick}, "\x01\x05" + maxNum + "\x01\x07" + "\x01\x0f" + maxTick},
	{api.Event{Kind: api.EvClose, Session: api.MaxNum, A: api.MaxNum, B: api.WhyKick, Tick: api.MaxTick}, "\x01\x06" + maxNum + maxNum + "\x01\x04" + maxTick},
	{api.Event{Kind: api.EvRevoke, User: api.MaxUsers - 1}, "\x01\x07" + "\x01\x07"},
	{api.Event{Kind: api.EvSpend, Session: api.MaxNum}, "\x01\x09" + maxNum},
}

// P7.1: events of each kind and their bytes.
func TestOrdinary(t *testing.T) {
	for _, c := range ordinary {
		checkIs(t, c.x, c.s)
	}
}

// P7.1: the longest of them has no more bytes than a record's place for it.
func TestLongest(t *testing.T) {
	for _, c := range ordinary {
		if len(c.s) > api.MaxEvent {
			t.Errorf("%s: %d bytes", tell(c.x), len(c.s))
		}
	}
}

// P7.1: each part has a place of its own, in the row of its kind.
func TestPlaces(t *testing.T) {
	for _, k := range kinds {
		for i, p := range k.row {
			x := api.Event{Kind: k.kind}
			*find(t, p.name).at(&x) = 3
			checkIs(t, x, k.s+strings.Repeat("\x00", i)+"\x01\x03"+strings.Repeat("\x00", len(k.row)-i-1))
		}
	}
}

// P7.1: each number of each kind from 0 to its greatest; one beyond and the negative are refused.
func TestNumbers(t *testing.T) {
	for _, k := range kinds {
		for _, p := range k.row {
			n := find(t, p.name)
			x := api.Event{Kind: k.kind}
			for _, y := range []int{0, 1, 2, 3, 4, 5, 6, 7, 8, 15, 16, 255, 256, 65535, 65536, 1048575, 1048576, 1048577, p.most - 1, p.most} {
				*n.at(&x) = y
				if y <= p.most {
					checkBack(t, x)
				} else {
					checkNot(t, x)
				}
			}
			for _, y := range append([]int{p.most + 1, p.most + 2, -p.most}, noNumbers...) {
				*n.at(&x) = y
				checkNot(t, x)
			}
		}
	}
}

// small is a part of a kind whose number is below a small end: its bytes, those
// ahead of the part and those behind it.
type small struct {
	name   string
	end    int
	kind   int
	ahead  string
	behind string
}

// smalls are the parts whose limit is one byte.
var smalls = []small{
	{"User", 8, api.EvUser, "\x01\x01", "\x00\x00\x00"},
	{"User", 8, api.EvFail, "\x01\x02", "\x00"},
	{"User", 8, api.EvPass, "\x01\x03", "\x00"},
	{"User", 8, api.EvUnlock, "\x01\x04", ""},
	{"User", 8, api.EvLease, "\x01\x05\x00", "\x00\x00"},
	{"User", 8, api.EvRevoke, "\x01\x07", ""},
	{"Address", 16, api.EvLease, "\x01\x05\x00\x00", "\x00"},
	{"B", 5, api.EvClose, "\x01\x06\x00\x00", "\x00"},
}

// P7.1: User is below MaxUsers, Address below MaxAddresses, and B of EvClose one of the Reasons.
func TestSmall(t *testing.T) {
	for _, c := range smalls {
		for y := 1; y < 256; y++ {
			x := api.Event{Kind: c.kind}
			*find(t, c.name).at(&x) = y
			s := c.ahead + "\x01" + string([]byte{byte(y)}) + c.behind
			if y < c.end {
				checkIs(t, x, s)
			} else {
				checkNot(t, x)
				checkNoGet(t, s)
			}
		}
		for _, s := range []string{maxNum, "\x02\x01\x00", "\x02\x01\x01", "\x02\x01\x04", overNum} {
			checkNoGet(t, c.ahead+s+c.behind)
		}
	}
}

// P7.1: C has a limit of its own; what is beyond it is a number, and no C.
func TestC(t *testing.T) {
	for _, c := range []int{0, 1, 1048575, 1048576} {
		checkBack(t, api.Event{Kind: api.EvUser, User: 1, A: 2, B: 3, C: c})
	}
	for _, c := range []int{1048577, 1048578, 2097152, 16777215, api.MaxNum, -1, -1048576} {
		checkNot(t, api.Event{Kind: api.EvUser, User: 1, A: 2, B: 3, C: c})
	}
	checkIs(t, api.Event{Kind: api.EvUser, C: 1048576}, "\x01\x01\x00\x00\x00"+maxQuota)
	checkNoGet(t, "\x01\x01\x00\x00\x00"+overQuota)
	checkNoGet(t, "\x01\x01\x00\x00\x00"+maxNum)
}

// P7.1: Tick is at most MaxTick, in each kind that names it.
func TestTick(t *testing.T) {
	for _, c := range []struct {
		kind  int
		ahead string
	}{
		{api.EvBoot, "\x00"},
		{api.EvFail, "\x01\x02\x00"},
		{api.EvLease, "\x01\x05\x00\x00\x00"},
		{api.EvClose, "\x01\x06\x00\x00\x00"},
	} {
		checkIs(t, api.Event{Kind: c.kind, Tick: 1048575}, c.ahead+maxTick)
		checkIs(t, api.Event{Kind: c.kind, Tick: 1048574}, c.ahead+"\x03\x0f\xff\xfe")
		for _, tick := range []int{1048576, 1048577, 2097152, 16777215, api.MaxNum, -1, -1048575} {
			checkNot(t, api.Event{Kind: c.kind, Tick: tick})
		}
		checkNoGet(t, c.ahead+overTick)
		checkNoGet(t, c.ahead+maxNum)
	}
}

// P7.1: A, B of EvUser, and Session go to MaxNum, beyond the limits of all others.
func TestWide(t *testing.T) {
	for _, y := range []int{5, 8, 16, 1048576, 1048577, 1 << 29, api.MaxNum - 1, api.MaxNum} {
		checkBack(t, api.Event{Kind: api.EvUser, A: y})
		checkBack(t, api.Event{Kind: api.EvUser, B: y})
		checkBack(t, api.Event{Kind: api.EvPass, A: y})
		checkBack(t, api.Event{Kind: api.EvLease, Session: y})
		checkBack(t, api.Event{Kind: api.EvClose, Session: y})
		checkBack(t, api.Event{Kind: api.EvClose, A: y})
		checkBack(t, api.Event{Kind: api.EvSpend, Session: y})
	}
	for _, s := range []string{
		"\x01\x01\x00" + overNum + "\x00\x00", "\x01\x01\x00\x00" + overNum + "\x00", "\x01\x03\x00" + overNum,
		"\x01\x05" + overNum + "\x00\x00\x00", "\x01\x06" + overNum + "\x00\x00\x00", "\x01\x06\x00" + overNum + "\x00\x00", "\x01\x09" + overNum,
	} {
		checkNoGet(t, s)
	}
}

// isNamed tells whether a kind names a number.
func isNamed(row []part, name string) bool {
	for _, p := range row {
		if p.name == name {
			return true
		}
	}
	return false
}

// P7.1: what a kind does not name is zero, each part by itself.
func TestNotNamed(t *testing.T) {
	for _, k := range kinds {
		for _, n := range all {
			if isNamed(k.row, n.name) {
				continue
			}
			for _, y := range []int{1, 4, 7, 15, api.MaxNum, -1, api.MaxNum + 1, math.MinInt, math.MaxInt} {
				x := api.Event{Kind: k.kind}
				*n.at(&x) = y
				checkNot(t, x)
			}
		}
	}
}

// P7.1: what a kind does not name is zero, beside parts that it does name.
func TestNotNamedBeside(t *testing.T) {
	for _, c := range ordinary {
		for _, n := range all {
			if !isNamed(kinds[c.x.Kind].row, n.name) {
				x := c.x
				*n.at(&x) = 1
				checkNot(t, x)
			}
		}
	}
}

// P7.1: what is no kind, whatever its parts are.
func TestNoKinds(t *testing.T) {
	for _, kind := range noKinds {
		checkNot(t, api.Event{Kind: kind})
		for _, c := range ordinary {
			x := c.x
			x.Kind = kind
			checkNot(t, x)
		}
	}
	for _, kind := range []string{"\x01\x0a", "\x01\x0b", "\x01\x40", "\x01\xff", "\x02\x01\x00", "\x02\x01\x08", "\x02\x01\x09", "\x03\x01\x00\x00", maxNum} {
		for n := range 8 {
			checkNoGet(t, kind+strings.Repeat("\x00", n))
		}
		checkNoGet(t, kind+"\x01\x01")
		checkNoGet(t, kind+maxNum)
	}
}

// P7.1: cut at each place, and with bytes left over, at the end and ahead.
func TestCuts(t *testing.T) {
	checkNoGet(t, "")
	for _, c := range ordinary {
		for k := range len(c.s) {
			checkNoGet(t, c.s[:k])
		}
		for b := range 256 {
			checkNoGet(t, c.s+string([]byte{byte(b)}))
		}
		checkNoGet(t, c.s+c.s)
		checkNoGet(t, c.s+maxNum)
		checkNoGet(t, c.s+strings.Repeat("\x00", 1<<20))
		checkNoGet(t, "\xff"+c.s)
		checkNoGet(t, "\x05"+c.s)
	}
	for _, s := range []string{"\x05", "\xff", "\x01", "\x04", "\x02\x01", "\x01\x01\x01\x03\x00\x01", "\x01\x09\x04\x01\x01\x01", strings.Repeat("\xff", 1<<20)} {
		checkNoGet(t, s)
	}
}

// badNumbers are bytes of which layer 1 reads no number.
var badNumbers = []string{
	"\x01\x00", "\x02\x00\x00", "\x02\x00\x01", "\x03\x00\x01\x01", "\x04\x00\x01\x01\x01",
	overNum, "\x04\x80\x00\x00\x00", "\x04\xff\xff\xff\xff", "\x05\x01\x01\x01\x01\x01", "\xff\x01",
}

// P7.1: numbers that layer 1 refuses, in the place of the kind and of each part.
func TestBadNumbers(t *testing.T) {
	for _, bad := range badNumbers {
		for n := range 6 {
			checkNoGet(t, bad+strings.Repeat("\x00", n))
		}
		for _, k := range kinds {
			for i := range k.row {
				checkNoGet(t, k.s+strings.Repeat("\x00", i)+bad+strings.Repeat("\x00", len(k.row)-i-1))
			}
		}
	}
	// Kinds and parts that are right but for a 0 at their beginning.
	for _, c := range ordinary {
		if c.x.Kind != api.EvBoot {
			checkNoGet(t, "\x02\x00"+c.s[1:])
		}
	}
	checkNoGet(t, "\x01\x00"+"\x00")
	checkNoGet(t, "\x01\x04"+"\x02\x00\x02")
}

// eachEvent calls do with events of each kind whose numbers are all out of a few.
func eachEvent(t *testing.T, do func(api.Event)) {
	few := []int{0, 1, 2, 3, 4, 5, 7, 255, 256, 257, 65536, api.MaxQuota}
	for _, k := range kinds {
		row := []api.Event{{Kind: k.kind}}
		for _, p := range k.row {
			var more []api.Event
			for _, x := range row {
				for _, y := range few {
					if y <= p.most {
						*find(t, p.name).at(&x) = y
						more = append(more, x)
					}
				}
			}
			row = more
		}
		for _, x := range row {
			do(x)
		}
	}
}

// P7.1: there and back; unlike events have unlike bytes.
func TestBack(t *testing.T) {
	seen := map[string]api.Event{}
	n := 0
	eachEvent(t, func(x api.Event) {
		s := checkBack(t, x)
		if other, is := seen[s]; is {
			t.Errorf("%s and %s: both %x", tell(x), tell(other), s)
		}
		seen[s] = x
		n++
	})
	// EvBoot to EvSpend, each the product of how many of the few its parts may be.
	want := 11 + 7*12*12*12 + 7*11 + 7*12 + 7 + 12*7*7*11 + 12*12*5*11 + 7 + 1 + 12
	if n != want {
		t.Errorf("%d events, want %d", n, want)
	}
}

// plainNum reads a number by layer 1's words, and gives what is left of s.
func plainNum(s string) (int, string, bool) {
	if s == "" || s[0] > 4 || len(s) < 1+int(s[0]) {
		return 0, "", false
	}
	n := int(s[0])
	x := 0
	for _, c := range []byte(s[1 : 1+n]) {
		x = x*256 + int(c)
	}
	if n > 0 && s[1] == 0 || x > api.MaxNum {
		return 0, "", false
	}
	return x, s[1+n:], true
}

// plainGet reads an event by the chapter's words, one after the other.
func plainGet(t *testing.T, s string) (api.Event, bool) {
	kind, s, ok := plainNum(s)
	if !ok || kind > 9 {
		return api.Event{}, false
	}
	x := api.Event{Kind: kind}
	for _, p := range kinds[kind].row {
		n := find(t, p.name)
		*n.at(&x), s, ok = plainNum(s)
		if !ok || *n.at(&x) > p.most {
			return api.Event{}, false
		}
	}
	if s != "" {
		return api.Event{}, false
	}
	return x, true
}

// checkPlain tells that Get of s is what the chapter's words make of it, and that what it takes is put again byte for byte.
func checkPlain(t *testing.T, s string) {
	t.Helper()
	x, is := plainGet(t, s)
	if !is {
		checkNoGet(t, s)
		return
	}
	checkIs(t, x, s)
}

// eachText calls do with every text of at most n of the letters, behind what stands ahead.
func eachText(letters string, n int, ahead string, do func(string)) {
	do(ahead)
	if n == 0 {
		return
	}
	for _, c := range []byte(letters) {
		eachText(letters, n-1, ahead+string([]byte{c}), do)
	}
}

// P7.1: all short texts over the bytes that matter, from the beginning and behind each kind.
func TestShort(t *testing.T) {
	eachText("\x00\x01\x02\x03\x04\x05\x07\x08\x09\x0a\xff", 5, "", func(s string) { checkPlain(t, s) })
	for _, k := range kinds {
		eachText("\x00\x01\x02\x05\x07\x08\xff", 5, k.s, func(s string) { checkPlain(t, s) })
		eachText("\x00\x01\x02", 7, k.s, func(s string) { checkPlain(t, s) })
	}
	eachText("\x00\x01\x03\x0f\x10", 5, "\x01\x01\x00\x00\x00", func(s string) { checkPlain(t, s) })
	eachText("\x00\x01\x03\x0f\x10\xff", 5, "\x00", func(s string) { checkPlain(t, s) })
}

// P7.1: an event's bytes with any one of them another, left out, or one put in.
func TestTurned(t *testing.T) {
	for _, c := range ordinary {
		for k := range len(c.s) {
			for b := range 256 {
				letter := string([]byte{byte(b)})
				checkPlain(t, c.s[:k]+letter+c.s[k+1:])
				checkPlain(t, c.s[:k]+letter+c.s[k:])
			}
			checkPlain(t, c.s[:k]+c.s[k+1:])
		}
	}
}

// P7.1 with R5: several goroutines at one time.
func TestAtOneTime(t *testing.T) {
	var group sync.WaitGroup
	for range 8 {
		group.Go(func() {
			for _, c := range ordinary {
				checkIs(t, c.x, c.s)
				checkNoGet(t, c.s[1:])
				checkNot(t, api.Event{Kind: c.x.Kind, User: 1, Session: 1, C: 1})
			}
		})
	}
	group.Wait()
}
