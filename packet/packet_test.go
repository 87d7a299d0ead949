package packet

import (
	"math"
	"strconv"
	"strings"
	"sync"
	"testing"
	"unsafe"

	"bastion/api"
)

// Numbers with their bytes, written out.
const (
	maxNum     = "\x04\x3f\xff\xff\xff"
	overNum    = "\x04\x40\x00\x00\x00"
	maxSeq     = "\x03\x0f\xff\xff"
	overSeq    = "\x03\x10\x00\x00"
	threeFifty = "\x02\x01\x5e"
)

// number is one of a packet's numbers: its name, where it stands, and the greatest that it may be.
type number struct {
	name string
	at   func(*api.Packet) *int
	most int
}

// all are a packet's numbers, but for its kind.
var all = []number{
	{"User", func(p *api.Packet) *int { return &p.User }, api.MaxNum},
	{"Nonce", func(p *api.Packet) *int { return &p.Nonce }, api.MaxNum},
	{"Half", func(p *api.Packet) *int { return &p.Half }, api.MaxNum},
	{"Tag", func(p *api.Packet) *int { return &p.Tag }, api.MaxNum},
	{"Code", func(p *api.Packet) *int { return &p.Code }, api.MaxNum},
	{"Session", func(p *api.Packet) *int { return &p.Session }, api.MaxNum},
	{"Seq", func(p *api.Packet) *int { return &p.Seq }, api.MaxSeq},
}

// kinds are the kinds with their byte and their numbers in their row; Data stands behind these where has says so.
var kinds = []struct {
	kind int
	s    string
	row  []string
	has  bool
}{
	{api.PackHello, "\x00", []string{"User", "Nonce"}, false},
	{api.PackProof, "\x01\x01", []string{"Half", "Tag", "Code"}, false},
	{api.PackResume, "\x01\x02", []string{"Tag", "Nonce", "Code"}, false},
	{api.PackData, "\x01\x03", []string{"Session", "Seq", "Tag"}, true},
	{api.PackBye, "\x01\x04", []string{"Session", "Tag"}, false},
}

// noKinds are numbers that are no kinds.
var noKinds = []int{-1, -2, -5, -256, math.MinInt32, math.MinInt, 5, 6, 63, 64, 255, 256, 65536, api.MaxNum, api.MaxNum + 1, 1 << 32, 1<<32 + 3, math.MaxInt}

// noNumbers are no numbers of layer 1.
var noNumbers = []int{-1, -2, -256, math.MinInt32, math.MinInt, api.MaxNum + 1, math.MaxInt32, 1 << 32, 1<<32 + 1, math.MaxInt}

// find gives the number of a name.
func find(t *testing.T, name string) number {
	t.Helper()
	for _, n := range all {
		if n.name == name {
			return n
		}
	}
	t.Fatalf("no number %s", name)
	return number{}
}

// tell is a packet for a message.
func tell(p api.Packet) string {
	out := "kind " + strconv.Itoa(p.Kind)
	for _, n := range all {
		if x := *n.at(&p); x != 0 {
			out += ", " + n.name + " " + strconv.Itoa(x)
		}
	}
	return out + ", Data of " + strconv.Itoa(len(p.Data)) + " bytes"
}

// checkIs tells that p may be, that its bytes are s, and that it is got from them.
func checkIs(t *testing.T, p api.Packet, s string) {
	t.Helper()
	if !May(p) {
		t.Errorf("May of %s: false", tell(p))
	}
	if got, e := Put(p); got != s || e != api.OK {
		t.Errorf("Put of %s: %x, %d, want %x", tell(p), got, e, s)
	}
	if got, e := Get(s); got != p || e != api.OK {
		t.Errorf("Get(%x): %s, %d, want %s", s, tell(got), e, tell(p))
	}
}

// checkNot tells that p may not be.
func checkNot(t *testing.T, p api.Packet) {
	t.Helper()
	if May(p) {
		t.Errorf("May of %s: true", tell(p))
	}
	if got, e := Put(p); got != "" || e != api.ErrPacketForm {
		t.Errorf("Put of %s: %x, %d, want ErrPacketForm", tell(p), got, e)
	}
}

// checkNoGet tells that s is no packet's bytes.
func checkNoGet(t *testing.T, s string) {
	t.Helper()
	if got, e := Get(s); got != (api.Packet{}) || e != api.ErrPacketForm {
		t.Errorf("Get(%x): %s, %d, want ErrPacketForm", s, tell(got), e)
	}
}

// checkBack tells that p may be and comes back from its bytes, and gives these.
func checkBack(t *testing.T, p api.Packet) string {
	t.Helper()
	s, e := Put(p)
	if !May(p) || s == "" || e != api.OK {
		t.Errorf("Put of %s: %x, %d", tell(p), s, e)
	}
	if got, e := Get(s); got != p || e != api.OK {
		t.Errorf("Get(%x): %s, %d, want %s", s, tell(got), e, tell(p))
	}
	return s
}

// ordinary are packets of each kind with their bytes.
var ordinary = []struct {
	p api.Packet
	s string
}{
	{api.Packet{Kind: api.PackHello, User: 3, Nonce: 350}, "\x00" + "\x01\x03" + threeFifty},
	{api.Packet{Kind: api.PackProof, Half: 7, Tag: 350, Code: 65536}, "\x01\x01" + "\x01\x07" + threeFifty + "\x03\x01\x00\x00"},
	{api.Packet{Kind: api.PackResume, Tag: 9, Nonce: 350, Code: 16777216}, "\x01\x02" + "\x01\x09" + threeFifty + "\x04\x01\x00\x00\x00"},
	{api.Packet{Kind: api.PackData, Session: 1, Seq: 2, Tag: 350, Data: "hello"}, "\x01\x03" + "\x01\x01" + "\x01\x02" + threeFifty + "\x01\x05hello"},
	{api.Packet{Kind: api.PackBye, Session: 350, Tag: 255}, "\x01\x04" + threeFifty + "\x01\xff"},
	// All parts zero.
	{api.Packet{Kind: api.PackHello}, "\x00" + "\x00" + "\x00"},
	{api.Packet{Kind: api.PackProof}, "\x01\x01" + "\x00" + "\x00" + "\x00"},
	{api.Packet{Kind: api.PackResume}, "\x01\x02" + "\x00" + "\x00" + "\x00"},
	{api.Packet{Kind: api.PackData}, "\x01\x03" + "\x00" + "\x00" + "\x00" + "\x00"},
	{api.Packet{Kind: api.PackBye}, "\x01\x04" + "\x00" + "\x00"},
	// All parts the greatest.
	{api.Packet{Kind: api.PackHello, User: api.MaxNum, Nonce: api.MaxNum}, "\x00" + maxNum + maxNum},
	{api.Packet{Kind: api.PackProof, Half: api.MaxNum, Tag: api.MaxNum, Code: api.MaxNum}, "\x01\x01" + maxNum + maxNum + maxNum},
	{api.Packet{Kind: api.PackResume, Tag: api.MaxNum, Nonce: api.MaxNum, Code: api.MaxNum}, "\x01\x02" + maxNum + maxNum + maxNum},
	{api.Packet{Kind: api.PackData, Session: api.MaxNum, Seq: api.MaxSeq, Tag: api.MaxNum, Data: strings.Repeat("d", 64)}, "\x01\x03" + maxNum + maxSeq + maxNum + "\x01\x40" + strings.Repeat("d", 64)},
	{api.Packet{Kind: api.PackBye, Session: api.MaxNum, Tag: api.MaxNum}, "\x01\x04" + maxNum + maxNum},
}

// P4.1: packets of each kind and their bytes.
func TestOrdinary(t *testing.T) {
	for _, r := range ordinary {
		checkIs(t, r.p, r.s)
	}
}

// P4.1: each part has a place of its own, in the row of its kind.
func TestPlaces(t *testing.T) {
	for _, k := range kinds {
		for i, name := range k.row {
			zeros := strings.Repeat("\x00", len(k.row)-i-1)
			if k.has {
				zeros += "\x00"
			}
			p := api.Packet{Kind: k.kind}
			*find(t, name).at(&p) = 350
			checkIs(t, p, k.s+strings.Repeat("\x00", i)+threeFifty+zeros)
		}
		if k.has {
			checkIs(t, api.Packet{Kind: k.kind, Data: "ann"}, k.s+strings.Repeat("\x00", len(k.row))+"\x01\x03ann")
		}
	}
}

// P4.1: each number of each kind from 0 to its greatest; one beyond and the negative are refused.
func TestNumbers(t *testing.T) {
	for _, k := range kinds {
		for _, name := range k.row {
			n := find(t, name)
			p := api.Packet{Kind: k.kind}
			for _, x := range []int{0, 1, 2, 255, 256, 65535, 65536, n.most - 1, n.most} {
				*n.at(&p) = x
				checkBack(t, p)
			}
			for _, x := range append([]int{n.most + 1}, noNumbers...) {
				*n.at(&p) = x
				checkNot(t, p)
			}
		}
	}
}

// P4.1: Seq has a limit of its own; what is beyond it is a number, and no Seq.
func TestSeq(t *testing.T) {
	for _, seq := range []int{0, 1, 1048574, 1048575} {
		checkBack(t, api.Packet{Kind: api.PackData, Session: 1, Seq: seq, Tag: 2, Data: "x"})
	}
	for _, seq := range []int{1048576, 1048577, 16777215, api.MaxNum, -1, -1048575} {
		checkNot(t, api.Packet{Kind: api.PackData, Session: 1, Seq: seq, Tag: 2, Data: "x"})
	}
	checkIs(t, api.Packet{Kind: api.PackData, Seq: 1048575}, "\x01\x03"+"\x00"+maxSeq+"\x00"+"\x00")
	checkNoGet(t, "\x01\x03"+"\x00"+overSeq+"\x00"+"\x00")
	checkNoGet(t, "\x01\x03"+"\x00"+maxNum+"\x00"+"\x00")
}

// P4.1: for each kind, each part that it does not name is zero.
func TestNotNamed(t *testing.T) {
	for _, k := range kinds {
		for _, n := range all {
			if strings.Contains(strings.Join(k.row, " "), n.name) {
				continue
			}
			for _, x := range append([]int{1, 2, 255, 256, api.MaxSeq, api.MaxNum}, noNumbers...) {
				p := api.Packet{Kind: k.kind}
				*n.at(&p) = x
				checkNot(t, p)
			}
		}
		for _, text := range []string{"x", "\x00", strings.Repeat("x", 64), strings.Repeat("x", 65)} {
			if !k.has {
				checkNot(t, api.Packet{Kind: k.kind, Data: text})
			}
		}
	}
}

// P4.1: Data has 0 to MaxData bytes.
func TestDataLength(t *testing.T) {
	for n := range api.MaxData + 1 {
		text := strings.Repeat("\x00\xff\x05a", n/4+1)[:n]
		want := "\x01" + string([]byte{byte(n)}) + text
		if n == 0 {
			want = "\x00"
		}
		checkIs(t, api.Packet{Kind: api.PackData, Session: 3, Seq: 4, Tag: 5, Data: text}, "\x01\x03\x01\x03\x01\x04\x01\x05"+want)
	}
	for _, n := range []int{65, 66, 128, 255, 256, 320, api.MaxText, api.MaxText + 1, api.MaxText + 64, 1 << 24} {
		checkNot(t, api.Packet{Kind: api.PackData, Session: 3, Seq: 4, Tag: 5, Data: strings.Repeat("a", n)})
	}
}

// P4.1: the bytes are counted, not the runes.
func TestDataRunes(t *testing.T) {
	half := strings.Repeat("\xc3\xa9", api.MaxData/2)
	checkBack(t, api.Packet{Kind: api.PackData, Data: half})
	checkNot(t, api.Packet{Kind: api.PackData, Data: half + "e"})
	checkNot(t, api.Packet{Kind: api.PackData, Data: half + "\xc3\xa9"})
}

// P4.1: Data has any bytes, such as are no runes too.
func TestDataBytes(t *testing.T) {
	for c := range 256 {
		text := string([]byte{byte(c)})
		checkIs(t, api.Packet{Kind: api.PackData, Data: text}, "\x01\x03\x00\x00\x00\x01\x01"+text)
		long := strings.Repeat(text, api.MaxData)
		checkIs(t, api.Packet{Kind: api.PackData, Data: long}, "\x01\x03\x00\x00\x00\x01\x40"+long)
	}
	for _, text := range []string{"\xff\xfe", "\xc3", "\xc3\x28", "\xef\xbf\xbd", "h\xc3\xa9", "\x00\x00", " a ", "\x01\x03\x00\x00\x00\x00"} {
		checkIs(t, api.Packet{Kind: api.PackData, Data: text}, "\x01\x03\x00\x00\x00\x01"+string([]byte{byte(len(text))})+text)
	}
}

// P4.1: what is no kind, whatever its parts are.
func TestNoKinds(t *testing.T) {
	for _, kind := range noKinds {
		checkNot(t, api.Packet{Kind: kind})
		for _, r := range ordinary {
			p := r.p
			p.Kind = kind
			checkNot(t, p)
		}
	}
	for _, kind := range []string{"\x01\x05", "\x01\x06", "\x01\xff", "\x02\x01\x00", "\x02\x01\x03", "\x03\x01\x00\x00", maxNum} {
		for n := range 6 {
			checkNoGet(t, kind+strings.Repeat("\x00", n))
		}
		checkNoGet(t, kind+maxNum+maxNum+maxNum)
	}
}

// P4.1: cut at each place, and with bytes left over, at the end and ahead.
func TestCuts(t *testing.T) {
	checkNoGet(t, "")
	for _, r := range ordinary {
		for k := range len(r.s) {
			checkNoGet(t, r.s[:k])
		}
		for c := range 256 {
			checkNoGet(t, r.s+string([]byte{byte(c)}))
		}
		checkNoGet(t, r.s+r.s)
		checkNoGet(t, r.s+maxNum)
		checkNoGet(t, r.s+strings.Repeat("\x00", 1<<20))
		checkNoGet(t, "\xff"+r.s)
		checkNoGet(t, "\x05"+r.s)
	}
	for _, s := range []string{"\x05", "\xff", "\x01", "\x04", "\x02\x01", "\x01\x03\x00\x00\x00\x01", "\x01\x03\x00\x00\x00\x01\x02a", strings.Repeat("\xff", 1<<20)} {
		checkNoGet(t, s)
	}
}

// badNumbers are bytes of which layer 1 reads no number.
var badNumbers = []string{
	"\x01\x00", "\x02\x00\x00", "\x02\x00\x01", "\x03\x00\x01\x01", "\x04\x00\x01\x01\x01",
	overNum, "\x04\x80\x00\x00\x00", "\x04\xff\xff\xff\xff", "\x05\x01\x01\x01\x01\x01", "\xff\x01",
}

// P4.1: numbers that layer 1 refuses, in the place of the kind and of each part.
func TestBadNumbers(t *testing.T) {
	for _, bad := range badNumbers {
		for n := range 6 {
			checkNoGet(t, bad+strings.Repeat("\x00", n))
		}
		for _, k := range kinds {
			places := len(k.row)
			if k.has {
				places++
			}
			for i := range places {
				checkNoGet(t, k.s+strings.Repeat("\x00", i)+bad+strings.Repeat("\x00", places-i-1))
			}
		}
	}
	// Kinds and a length that are right but for a 0 at their beginning.
	for _, r := range ordinary {
		if r.p.Kind != api.PackHello {
			checkNoGet(t, "\x02\x00"+r.s[1:])
		}
	}
	checkNoGet(t, "\x01\x00"+"\x01\x03"+threeFifty)
	checkNoGet(t, "\x01\x03\x00\x00\x00"+"\x02\x00\x01a")
}

// P4.1: Data's bytes beyond its limit, and beyond layer 1's.
func TestLongData(t *testing.T) {
	long := strings.Repeat("a", api.MaxText+1)
	checkIs(t, api.Packet{Kind: api.PackData, Data: long[:64]}, "\x01\x03\x00\x00\x00"+"\x01\x40"+long[:64])
	checkNoGet(t, "\x01\x03\x00\x00\x00"+"\x01\x41"+long[:65])
	checkNoGet(t, "\x01\x03\x00\x00\x00"+"\x01\x41"+long[:64])
	checkNoGet(t, "\x01\x03\x00\x00\x00"+"\x01\xff"+long[:255])
	checkNoGet(t, "\x01\x03\x00\x00\x00"+"\x02\x01\x40"+long[:320])
	checkNoGet(t, "\x01\x03\x00\x00\x00"+"\x03\x01\x00\x00"+long[:api.MaxText])
	checkNoGet(t, "\x01\x03\x00\x00\x00"+"\x03\x01\x00\x01"+long)
	checkNoGet(t, "\x01\x03\x00\x00\x00"+maxNum+long)
}

// eachPacket calls do with packets of each kind whose numbers are all out of a few.
func eachPacket(t *testing.T, do func(api.Packet)) {
	few := []int{0, 1, 2, 255, 256, 257, 65536, api.MaxSeq}
	texts := []string{"", "\x00", "\x01", "\x00\x00", "\x01\x01", "a", "\x02\x01\x00", strings.Repeat("\x00", 64)}
	for _, k := range kinds {
		row := []api.Packet{{Kind: k.kind}}
		for _, name := range k.row {
			var more []api.Packet
			for _, p := range row {
				for _, x := range few {
					*find(t, name).at(&p) = x
					more = append(more, p)
				}
			}
			row = more
		}
		for _, p := range row {
			do(p)
			for _, text := range texts[1:] {
				if k.has {
					p.Data = text
					do(p)
				}
			}
		}
	}
}

// P4.1: there and back; unlike packets have unlike bytes.
func TestBack(t *testing.T) {
	seen := map[string]api.Packet{}
	n := 0
	eachPacket(t, func(p api.Packet) {
		s := checkBack(t, p)
		if other, is := seen[s]; is {
			t.Errorf("%s and %s: both %x", tell(p), tell(other), s)
		}
		seen[s] = p
		n++
	})
	if want := 64 + 512 + 512 + 8*512 + 64; n != want {
		t.Errorf("%d packets, want %d", n, want)
	}
}

// plainNum reads a number by layer 1's words, and gives what is left of s.
func plainNum(s string) (int, string, bool) {
	if s == "" || s[0] > 4 || len(s) < 1+int(s[0]) {
		return 0, "", false
	}
	n := int(s[0])
	x := 0
	for _, c := range []byte(s[1 : 1+n]) {
		x = x*256 + int(c)
	}
	if n > 0 && s[1] == 0 || x > api.MaxNum {
		return 0, "", false
	}
	return x, s[1+n:], true
}

// plainGet reads a packet by the chapter's words, one after the other.
func plainGet(t *testing.T, s string) (api.Packet, bool) {
	kind, s, ok := plainNum(s)
	if !ok || kind > 4 {
		return api.Packet{}, false
	}
	p := api.Packet{Kind: kind}
	for _, name := range kinds[kind].row {
		n := find(t, name)
		*n.at(&p), s, ok = plainNum(s)
		if !ok || *n.at(&p) > n.most {
			return api.Packet{}, false
		}
	}
	if kinds[kind].has {
		n := 0
		n, s, ok = plainNum(s)
		if !ok || n > 64 || n > len(s) {
			return api.Packet{}, false
		}
		p.Data, s = s[:n], s[n:]
	}
	if s != "" {
		return api.Packet{}, false
	}
	return p, true
}

// checkPlain tells that Get of s is what the chapter's words make of it, and that what it takes is put again byte for byte.
func checkPlain(t *testing.T, s string) {
	t.Helper()
	p, is := plainGet(t, s)
	if !is {
		checkNoGet(t, s)
		return
	}
	checkIs(t, p, s)
}

// eachText calls do with every text of at most n of the letters, behind what stands ahead.
func eachText(letters string, n int, ahead string, do func(string)) {
	do(ahead)
	if n == 0 {
		return
	}
	for _, c := range []byte(letters) {
		eachText(letters, n-1, ahead+string([]byte{c}), do)
	}
}

// P4.1: all short texts over the bytes that matter, from the beginning and behind each kind.
func TestShort(t *testing.T) {
	letters := "\x00\x01\x02\x03\x04\x05\xff"
	eachText(letters, 5, "", func(s string) { checkPlain(t, s) })
	for _, k := range kinds {
		eachText("\x00\x01\x02\x05\xff", 6, k.s, func(s string) { checkPlain(t, s) })
	}
	eachText("\x00\x01\x02", 6, "\x01\x03\x00\x00", func(s string) { checkPlain(t, s) })
}

// P4.1: a packet's bytes with any one of them another, left out, or one put in.
func TestTurned(t *testing.T) {
	for _, r := range ordinary {
		for k := range len(r.s) {
			for c := range 256 {
				letter := string([]byte{byte(c)})
				checkPlain(t, r.s[:k]+letter+r.s[k+1:])
				checkPlain(t, r.s[:k]+letter+r.s[k:])
			}
			checkPlain(t, r.s[:k]+r.s[k+1:])
		}
	}
}

// shares tells whether a begins within b's memory.
func shares(a, b string) bool {
	from := uintptr(unsafe.Pointer(unsafe.StringData(b)))
	at := uintptr(unsafe.Pointer(unsafe.StringData(a)))
	return at >= from && at < from+uintptr(len(b))
}

// P4.1 with R4: bytes that were put and data that was got share no memory with what was handed in, nor with another answer.
func TestMemory(t *testing.T) {
	p := api.Packet{Kind: api.PackData, Data: strings.Repeat("abc", 20)}
	s, e := Put(p)
	again, f := Put(p)
	one, g := Get(s)
	two, h := Get(s)
	if e != api.OK || f != api.OK || g != api.OK || h != api.OK {
		t.Fatal(e, f, g, h)
	}
	if shares(p.Data, s) || shares(s, p.Data) || shares(s, again) {
		t.Error("Put: shared memory")
	}
	if shares(one.Data, s) || shares(two.Data, s) || shares(one.Data, two.Data) {
		t.Error("Get: shared memory")
	}
}

// P4.1 with R5: several goroutines at one time.
func TestAtOneTime(t *testing.T) {
	var group sync.WaitGroup
	for range 8 {
		group.Go(func() {
			for _, r := range ordinary {
				checkIs(t, r.p, r.s)
				checkNoGet(t, r.s[1:])
				checkNot(t, api.Packet{Kind: r.p.Kind, Half: 1, Session: 1})
			}
		})
	}
	group.Wait()
}
