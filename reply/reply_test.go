package reply

import (
	"math"
	"slices"
	"strconv"
	"strings"
	"sync"
	"testing"
	"unsafe"

	"bastion/api"
)

// Numbers with their bytes, written out.
const (
	maxNum     = "\x04\x3f\xff\xff\xff"
	overNum    = "\x04\x40\x00\x00\x00"
	maxSeq     = "\x03\x0f\xff\xff"
	overSeq    = "\x03\x10\x00\x00"
	threeFifty = "\x02\x01\x5e"
)

// number is one of a reply's numbers: its name, and where it stands.
type number struct {
	name string
	at   func(*api.Reply) *int
}

// all are a reply's numbers, but for its kind.
var all = []number{
	{"Half", func(r *api.Reply) *int { return &r.Half }},
	{"Nonce", func(r *api.Reply) *int { return &r.Nonce }},
	{"Session", func(r *api.Reply) *int { return &r.Session }},
	{"Address", func(r *api.Reply) *int { return &r.Address }},
	{"Ticket", func(r *api.Reply) *int { return &r.Ticket }},
	{"Seq", func(r *api.Reply) *int { return &r.Seq }},
	{"Code", func(r *api.Reply) *int { return &r.Code }},
}

// part is a number that a kind names, and the greatest that it may be there.
type part struct {
	name string
	most int
}

// kinds are the kinds with their byte and their numbers in their row; Data stands behind these where has says so.
var kinds = []struct {
	kind int
	s    string
	row  []part
	has  bool
}{
	{api.ReplyChallenge, "\x00", []part{{"Half", 1073741823}, {"Nonce", 1073741823}}, false},
	{api.ReplyWelcome, "\x01\x01", []part{{"Session", 1073741823}, {"Address", 15}, {"Ticket", 1073741823}}, false},
	{api.ReplyDeliver, "\x01\x02", []part{{"Session", 1073741823}, {"Seq", 1048575}}, true},
	{api.ReplyRefuse, "\x01\x03", []part{{"Code", 11}}, false},
	{api.ReplyClosed, "\x01\x04", []part{{"Session", 1073741823}, {"Code", 4}}, false},
	{api.ReplyDone, "\x01\x05", nil, false},
}

// noKinds are numbers that are no kinds.
var noKinds = []int{-1, -2, -6, -256, math.MinInt32, math.MinInt, 6, 7, 63, 64, 255, 256, 65536, api.MaxNum, api.MaxNum + 1, 1 << 32, 1<<32 + 3, 1<<32 + 5, math.MaxInt}

// noNumbers are no numbers of layer 1.
var noNumbers = []int{-1, -2, -256, math.MinInt32, math.MinInt, api.MaxNum + 1, math.MaxInt32, 1 << 32, 1<<32 + 1, math.MaxInt}

// find gives the number of a name.
func find(t *testing.T, name string) number {
	t.Helper()
	for _, n := range all {
		if n.name == name {
			return n
		}
	}
	t.Fatalf("no number %s", name)
	return number{}
}

// tell is a reply for a message.
func tell(r api.Reply) string {
	out := "kind " + strconv.Itoa(r.Kind)
	for _, n := range all {
		if x := *n.at(&r); x != 0 {
			out += ", " + n.name + " " + strconv.Itoa(x)
		}
	}
	return out + ", Data of " + strconv.Itoa(len(r.Data)) + " bytes"
}

// checkIs tells that r may be, that its bytes are s, and that it is got from them.
func checkIs(t *testing.T, r api.Reply, s string) {
	t.Helper()
	if !May(r) {
		t.Errorf("May of %s: false", tell(r))
	}
	if got, e := Put(r); got != s || e != api.OK {
		t.Errorf("Put of %s: %x, %d, want %x", tell(r), got, e, s)
	}
	if got, e := Get(s); got != r || e != api.OK {
		t.Errorf("Get(%x): %s, %d, want %s", s, tell(got), e, tell(r))
	}
}

// checkNot tells that r may not be.
func checkNot(t *testing.T, r api.Reply) {
	t.Helper()
	if May(r) {
		t.Errorf("May of %s: true", tell(r))
	}
	if got, e := Put(r); got != "" || e != api.ErrReplyForm {
		t.Errorf("Put of %s: %x, %d, want ErrReplyForm", tell(r), got, e)
	}
}

// checkNoGet tells that s is no reply's bytes.
func checkNoGet(t *testing.T, s string) {
	t.Helper()
	if got, e := Get(s); got != (api.Reply{}) || e != api.ErrReplyForm {
		t.Errorf("Get(%x): %s, %d, want ErrReplyForm", s, tell(got), e)
	}
}

// checkBack tells that r may be and comes back from its bytes, and gives these.
func checkBack(t *testing.T, r api.Reply) string {
	t.Helper()
	s, e := Put(r)
	if !May(r) || s == "" || e != api.OK {
		t.Errorf("Put of %s: %x, %d", tell(r), s, e)
	}
	if got, e := Get(s); got != r || e != api.OK {
		t.Errorf("Get(%x): %s, %d, want %s", s, tell(got), e, tell(r))
	}
	return s
}

// ordinary are replies of each kind with their bytes.
var ordinary = []struct {
	r api.Reply
	s string
}{
	{api.Reply{Kind: api.ReplyChallenge, Half: 3, Nonce: 350}, "\x00" + "\x01\x03" + threeFifty},
	{api.Reply{Kind: api.ReplyWelcome, Session: 7, Address: 2, Ticket: 65536}, "\x01\x01" + "\x01\x07" + "\x01\x02" + "\x03\x01\x00\x00"},
	{api.Reply{Kind: api.ReplyDeliver, Session: 350, Seq: 2, Data: "hello"}, "\x01\x02" + threeFifty + "\x01\x02" + "\x01\x05hello"},
	{api.Reply{Kind: api.ReplyRefuse, Code: api.RefReplay}, "\x01\x03" + "\x01\x08"},
	{api.Reply{Kind: api.ReplyClosed, Session: 16777216, Code: api.WhyQuota}, "\x01\x04" + "\x04\x01\x00\x00\x00" + "\x01\x03"},
	{api.Reply{Kind: api.ReplyDone}, "\x01\x05"},
	// All parts zero.
	{api.Reply{Kind: api.ReplyChallenge}, "\x00" + "\x00" + "\x00"},
	{api.Reply{Kind: api.ReplyWelcome}, "\x01\x01" + "\x00" + "\x00" + "\x00"},
	{api.Reply{Kind: api.ReplyDeliver}, "\x01\x02" + "\x00" + "\x00" + "\x00"},
	{api.Reply{Kind: api.ReplyRefuse}, "\x01\x03" + "\x00"},
	{api.Reply{Kind: api.ReplyClosed}, "\x01\x04" + "\x00" + "\x00"},
	// All parts the greatest.
	{api.Reply{Kind: api.ReplyChallenge, Half: api.MaxNum, Nonce: api.MaxNum}, "\x00" + maxNum + maxNum},
	{api.Reply{Kind: api.ReplyWelcome, Session: api.MaxNum, Address: api.MaxAddresses - 1, Ticket: api.MaxNum}, "\x01\x01" + maxNum + "\x01\x0f" + maxNum},
	{api.Reply{Kind: api.ReplyDeliver, Session: api.MaxNum, Seq: api.MaxSeq, Data: strings.Repeat("d", 64)}, "\x01\x02" + maxNum + maxSeq + "\x01\x40" + strings.Repeat("d", 64)},
	{api.Reply{Kind: api.ReplyRefuse, Code: api.RefAdmin}, "\x01\x03" + "\x01\x0b"},
	{api.Reply{Kind: api.ReplyClosed, Session: api.MaxNum, Code: api.WhyKick}, "\x01\x04" + maxNum + "\x01\x04"},
}

// P5.1: replies of each kind and their bytes.
func TestOrdinary(t *testing.T) {
	for _, c := range ordinary {
		checkIs(t, c.r, c.s)
	}
}

// P5.1: each part has a place of its own, in the row of its kind.
func TestPlaces(t *testing.T) {
	for _, k := range kinds {
		for i, p := range k.row {
			zeros := strings.Repeat("\x00", len(k.row)-i-1)
			if k.has {
				zeros += "\x00"
			}
			r := api.Reply{Kind: k.kind}
			*find(t, p.name).at(&r) = 3
			checkIs(t, r, k.s+strings.Repeat("\x00", i)+"\x01\x03"+zeros)
		}
		if k.has {
			checkIs(t, api.Reply{Kind: k.kind, Data: "ann"}, k.s+strings.Repeat("\x00", len(k.row))+"\x01\x03ann")
		}
	}
}

// P5.1: each number of each kind from 0 to its greatest; one beyond and the negative are refused.
func TestNumbers(t *testing.T) {
	for _, k := range kinds {
		for _, p := range k.row {
			n := find(t, p.name)
			r := api.Reply{Kind: k.kind}
			for _, x := range []int{0, 1, 2, 3, 4, 5, 11, 12, 15, 16, 255, 256, 65535, 65536, p.most - 1, p.most} {
				*n.at(&r) = x
				if x <= p.most {
					checkBack(t, r)
				} else {
					checkNot(t, r)
				}
			}
			for _, x := range append([]int{p.most + 1, p.most + 2, -p.most}, noNumbers...) {
				*n.at(&r) = x
				checkNot(t, r)
			}
		}
	}
}

// P5.1: Seq has a limit of its own; what is beyond it is a number, and no Seq.
func TestSeq(t *testing.T) {
	for _, seq := range []int{0, 1, 1048574, 1048575} {
		checkBack(t, api.Reply{Kind: api.ReplyDeliver, Session: 1, Seq: seq, Data: "x"})
	}
	for _, seq := range []int{1048576, 1048577, 16777215, api.MaxNum, -1, -1048575} {
		checkNot(t, api.Reply{Kind: api.ReplyDeliver, Session: 1, Seq: seq, Data: "x"})
	}
	checkIs(t, api.Reply{Kind: api.ReplyDeliver, Seq: 1048575}, "\x01\x02"+"\x00"+maxSeq+"\x00")
	checkNoGet(t, "\x01\x02"+"\x00"+overSeq+"\x00")
	checkNoGet(t, "\x01\x02"+"\x00"+maxNum+"\x00")
}

// P5.1: Address is below MaxAddresses.
func TestAddress(t *testing.T) {
	for x := 1; x < 256; x++ {
		r := api.Reply{Kind: api.ReplyWelcome, Address: x}
		s := "\x01\x01\x00" + "\x01" + string([]byte{byte(x)}) + "\x00"
		if x < 16 {
			checkIs(t, r, s)
		} else {
			checkNot(t, r)
			checkNoGet(t, s)
		}
	}
	checkNoGet(t, "\x01\x01\x00"+"\x02\x01\x00"+"\x00")
	checkNoGet(t, "\x01\x01\x00"+maxNum+"\x00")
}

// P5.1: Code is one of the Refusals, or one of the Reasons.
func TestCodes(t *testing.T) {
	refusals := []int{api.RefForm, api.RefUser, api.RefLocked, api.RefBusy, api.RefHalf, api.RefLogin, api.RefTicket, api.RefSession, api.RefReplay, api.RefPool, api.RefDisk, api.RefAdmin}
	reasons := []int{api.WhyBye, api.WhyIdle, api.WhyAbsolute, api.WhyQuota, api.WhyKick}
	for code := range 256 {
		s := "\x01" + string([]byte{byte(code)})
		if code == 0 {
			s = "\x00"
		}
		refuse := api.Reply{Kind: api.ReplyRefuse, Code: code}
		if slices.Contains(refusals, code) {
			checkIs(t, refuse, "\x01\x03"+s)
		} else {
			checkNot(t, refuse)
			checkNoGet(t, "\x01\x03"+s)
		}
		closed := api.Reply{Kind: api.ReplyClosed, Session: 350, Code: code}
		if slices.Contains(reasons, code) {
			checkIs(t, closed, "\x01\x04"+threeFifty+s)
		} else {
			checkNot(t, closed)
			checkNoGet(t, "\x01\x04"+threeFifty+s)
		}
	}
	for _, s := range []string{"\x02\x01\x00", "\x02\x01\x04", "\x03\x01\x00\x00", maxNum} {
		checkNoGet(t, "\x01\x03"+s)
		checkNoGet(t, "\x01\x04\x00"+s)
	}
}

// names tells whether a number is one of a kind's parts.
func names(row []part, name string) bool {
	return slices.ContainsFunc(row, func(p part) bool { return p.name == name })
}

// P5.1: for each kind, each part that it does not name is zero.
func TestNotNamed(t *testing.T) {
	for _, k := range kinds {
		for _, n := range all {
			if names(k.row, n.name) {
				continue
			}
			for _, x := range append([]int{1, 2, 4, 11, 15, 255, 256, api.MaxSeq, api.MaxNum}, noNumbers...) {
				r := api.Reply{Kind: k.kind}
				*n.at(&r) = x
				checkNot(t, r)
			}
		}
		for _, text := range []string{"x", "\x00", strings.Repeat("x", 64), strings.Repeat("x", 65)} {
			if !k.has {
				checkNot(t, api.Reply{Kind: k.kind, Data: text})
			}
		}
	}
}

// P5.1: a kind's own parts beside one that it does not name.
func TestNotNamedBeside(t *testing.T) {
	n := 0
	for _, c := range ordinary {
		for _, other := range all {
			if r := c.r; !names(kinds[r.Kind].row, other.name) {
				*other.at(&r) = 1
				checkNot(t, r)
				n++
			}
		}
		if r := c.r; !kinds[r.Kind].has {
			r.Data = "x"
			checkNot(t, r)
		}
	}
	if want := 3*(5+4+5+6+5) + 7; n != want {
		t.Errorf("%d parts, want %d", n, want)
	}
}

// P5.1: Data has 0 to MaxData bytes.
func TestDataLength(t *testing.T) {
	for n := range api.MaxData + 1 {
		text := strings.Repeat("\x00\xff\x05a", n/4+1)[:n]
		want := "\x01" + string([]byte{byte(n)}) + text
		if n == 0 {
			want = "\x00"
		}
		checkIs(t, api.Reply{Kind: api.ReplyDeliver, Session: 3, Seq: 4, Data: text}, "\x01\x02\x01\x03\x01\x04"+want)
	}
	for _, n := range []int{65, 66, 128, 255, 256, 320, api.MaxText, api.MaxText + 1, api.MaxText + 64, 1 << 24} {
		checkNot(t, api.Reply{Kind: api.ReplyDeliver, Session: 3, Seq: 4, Data: strings.Repeat("a", n)})
	}
}

// P5.1: the bytes are counted, not the runes.
func TestDataRunes(t *testing.T) {
	half := strings.Repeat("\xc3\xa9", api.MaxData/2)
	checkBack(t, api.Reply{Kind: api.ReplyDeliver, Data: half})
	checkNot(t, api.Reply{Kind: api.ReplyDeliver, Data: half + "e"})
	checkNot(t, api.Reply{Kind: api.ReplyDeliver, Data: half + "\xc3\xa9"})
}

// P5.1: Data has any bytes, such as are no runes too.
func TestDataBytes(t *testing.T) {
	for c := range 256 {
		text := string([]byte{byte(c)})
		checkIs(t, api.Reply{Kind: api.ReplyDeliver, Data: text}, "\x01\x02\x00\x00\x01\x01"+text)
		long := strings.Repeat(text, api.MaxData)
		checkIs(t, api.Reply{Kind: api.ReplyDeliver, Data: long}, "\x01\x02\x00\x00\x01\x40"+long)
	}
	for _, text := range []string{"\xff\xfe", "\xc3", "\xc3\x28", "\xef\xbf\xbd", "h\xc3\xa9", "\x00\x00", " a ", "\x01\x02\x00\x00\x00"} {
		checkIs(t, api.Reply{Kind: api.ReplyDeliver, Data: text}, "\x01\x02\x00\x00\x01"+string([]byte{byte(len(text))})+text)
	}
}

// P5.1: what is no kind, whatever its parts are.
func TestNoKinds(t *testing.T) {
	for _, kind := range noKinds {
		checkNot(t, api.Reply{Kind: kind})
		for _, c := range ordinary {
			r := c.r
			r.Kind = kind
			checkNot(t, r)
		}
	}
	for _, kind := range []string{"\x01\x06", "\x01\x07", "\x01\xff", "\x02\x01\x00", "\x02\x01\x03", "\x02\x01\x05", "\x03\x01\x00\x00", maxNum} {
		for n := range 6 {
			checkNoGet(t, kind+strings.Repeat("\x00", n))
		}
		checkNoGet(t, kind+maxNum+maxNum+maxNum)
	}
}

// P5.1: cut at each place, and with bytes left over, at the end and ahead.
func TestCuts(t *testing.T) {
	checkNoGet(t, "")
	for _, c := range ordinary {
		for k := range len(c.s) {
			checkNoGet(t, c.s[:k])
		}
		for b := range 256 {
			checkNoGet(t, c.s+string([]byte{byte(b)}))
		}
		checkNoGet(t, c.s+c.s)
		checkNoGet(t, c.s+maxNum)
		checkNoGet(t, c.s+strings.Repeat("\x00", 1<<20))
		checkNoGet(t, "\xff"+c.s)
		checkNoGet(t, "\x05"+c.s)
	}
	for _, s := range []string{"\x05", "\xff", "\x01", "\x04", "\x02\x01", "\x01\x02\x00\x00\x01", "\x01\x02\x00\x00\x01\x02a", strings.Repeat("\xff", 1<<20)} {
		checkNoGet(t, s)
	}
}

// badNumbers are bytes of which layer 1 reads no number.
var badNumbers = []string{
	"\x01\x00", "\x02\x00\x00", "\x02\x00\x01", "\x03\x00\x01\x01", "\x04\x00\x01\x01\x01",
	overNum, "\x04\x80\x00\x00\x00", "\x04\xff\xff\xff\xff", "\x05\x01\x01\x01\x01\x01", "\xff\x01",
}

// P5.1: numbers that layer 1 refuses, in the place of the kind and of each part.
func TestBadNumbers(t *testing.T) {
	for _, bad := range badNumbers {
		for n := range 6 {
			checkNoGet(t, bad+strings.Repeat("\x00", n))
		}
		for _, k := range kinds {
			places := len(k.row)
			if k.has {
				places++
			}
			for i := range places {
				checkNoGet(t, k.s+strings.Repeat("\x00", i)+bad+strings.Repeat("\x00", places-i-1))
			}
		}
	}
	// Kinds and a length that are right but for a 0 at their beginning.
	for _, c := range ordinary {
		if c.r.Kind != api.ReplyChallenge {
			checkNoGet(t, "\x02\x00"+c.s[1:])
		}
	}
	checkNoGet(t, "\x01\x00"+"\x01\x03"+threeFifty)
	checkNoGet(t, "\x01\x02\x00\x00"+"\x02\x00\x01a")
}

// P5.1: Data's bytes beyond its limit, and beyond layer 1's.
func TestLongData(t *testing.T) {
	long := strings.Repeat("a", api.MaxText+1)
	checkIs(t, api.Reply{Kind: api.ReplyDeliver, Data: long[:64]}, "\x01\x02\x00\x00"+"\x01\x40"+long[:64])
	checkNoGet(t, "\x01\x02\x00\x00"+"\x01\x41"+long[:65])
	checkNoGet(t, "\x01\x02\x00\x00"+"\x01\x41"+long[:64])
	checkNoGet(t, "\x01\x02\x00\x00"+"\x01\xff"+long[:255])
	checkNoGet(t, "\x01\x02\x00\x00"+"\x02\x01\x40"+long[:320])
	checkNoGet(t, "\x01\x02\x00\x00"+"\x03\x01\x00\x00"+long[:api.MaxText])
	checkNoGet(t, "\x01\x02\x00\x00"+"\x03\x01\x00\x01"+long)
	checkNoGet(t, "\x01\x02\x00\x00"+maxNum+long)
}

// eachReply calls do with replies of each kind whose numbers are all out of a few.
func eachReply(t *testing.T, do func(api.Reply)) {
	few := []int{0, 1, 2, 3, 4, 5, 11, 15, 255, 256, 257, 65536, api.MaxSeq}
	texts := []string{"", "\x00", "\x01", "\x00\x00", "\x01\x01", "a", "\x02\x01\x00", strings.Repeat("\x00", 64)}
	for _, k := range kinds {
		row := []api.Reply{{Kind: k.kind}}
		for _, p := range k.row {
			var more []api.Reply
			for _, r := range row {
				for _, x := range few {
					if x <= p.most {
						*find(t, p.name).at(&r) = x
						more = append(more, r)
					}
				}
			}
			row = more
		}
		for _, r := range row {
			do(r)
			for _, text := range texts[1:] {
				if k.has {
					r.Data = text
					do(r)
				}
			}
		}
	}
}

// P5.1: there and back; unlike replies have unlike bytes.
func TestBack(t *testing.T) {
	seen := map[string]api.Reply{}
	n := 0
	eachReply(t, func(r api.Reply) {
		s := checkBack(t, r)
		if other, is := seen[s]; is {
			t.Errorf("%s and %s: both %x", tell(r), tell(other), s)
		}
		seen[s] = r
		n++
	})
	if want := 13*13 + 13*8*13 + 13*13*8 + 7 + 13*5 + 1; n != want {
		t.Errorf("%d replies, want %d", n, want)
	}
}

// plainNum reads a number by layer 1's words, and gives what is left of s.
func plainNum(s string) (int, string, bool) {
	if s == "" || s[0] > 4 || len(s) < 1+int(s[0]) {
		return 0, "", false
	}
	n := int(s[0])
	x := 0
	for _, c := range []byte(s[1 : 1+n]) {
		x = x*256 + int(c)
	}
	if n > 0 && s[1] == 0 || x > api.MaxNum {
		return 0, "", false
	}
	return x, s[1+n:], true
}

// plainGet reads a reply by the chapter's words, one after the other.
func plainGet(t *testing.T, s string) (api.Reply, bool) {
	kind, s, ok := plainNum(s)
	if !ok || kind > 5 {
		return api.Reply{}, false
	}
	r := api.Reply{Kind: kind}
	for _, p := range kinds[kind].row {
		n := find(t, p.name)
		*n.at(&r), s, ok = plainNum(s)
		if !ok || *n.at(&r) > p.most {
			return api.Reply{}, false
		}
	}
	if kinds[kind].has {
		n := 0
		n, s, ok = plainNum(s)
		if !ok || n > 64 || n > len(s) {
			return api.Reply{}, false
		}
		r.Data, s = s[:n], s[n:]
	}
	if s != "" {
		return api.Reply{}, false
	}
	return r, true
}

// checkPlain tells that Get of s is what the chapter's words make of it, and that what it takes is put again byte for byte.
func checkPlain(t *testing.T, s string) {
	t.Helper()
	r, is := plainGet(t, s)
	if !is {
		checkNoGet(t, s)
		return
	}
	checkIs(t, r, s)
}

// eachText calls do with every text of at most n of the letters, behind what stands ahead.
func eachText(letters string, n int, ahead string, do func(string)) {
	do(ahead)
	if n == 0 {
		return
	}
	for _, c := range []byte(letters) {
		eachText(letters, n-1, ahead+string([]byte{c}), do)
	}
}

// P5.1: all short texts over the bytes that matter, from the beginning and behind each kind.
func TestShort(t *testing.T) {
	letters := "\x00\x01\x02\x03\x04\x05\x06\xff"
	eachText(letters, 5, "", func(s string) { checkPlain(t, s) })
	for _, k := range kinds {
		eachText("\x00\x01\x02\x05\x0b\x0f\xff", 5, k.s, func(s string) { checkPlain(t, s) })
	}
	eachText("\x00\x01\x02", 6, "\x01\x02\x00", func(s string) { checkPlain(t, s) })
}

// P5.1: a reply's bytes with any one of them another, left out, or one put in.
func TestTurned(t *testing.T) {
	for _, c := range ordinary {
		for k := range len(c.s) {
			for b := range 256 {
				letter := string([]byte{byte(b)})
				checkPlain(t, c.s[:k]+letter+c.s[k+1:])
				checkPlain(t, c.s[:k]+letter+c.s[k:])
			}
			checkPlain(t, c.s[:k]+c.s[k+1:])
		}
	}
}

// shares tells whether a begins within b's memory.
func shares(a, b string) bool {
	from := uintptr(unsafe.Pointer(unsafe.StringData(b)))
	at := uintptr(unsafe.Pointer(unsafe.StringData(a)))
	return at >= from && at < from+uintptr(len(b))
}

// P5.1 with R4: bytes that were put and data that was got share no memory with what was handed in, nor with another answer.
func TestMemory(t *testing.T) {
	r := api.Reply{Kind: api.ReplyDeliver, Data: strings.Repeat("abc", 20)}
	s, e := Put(r)
	again, f := Put(r)
	one, g := Get(s)
	two, h := Get(s)
	if e != api.OK || f != api.OK || g != api.OK || h != api.OK {
		t.Fatal(e, f, g, h)
	}
	if shares(r.Data, s) || shares(s, r.Data) || shares(s, again) {
		t.Error("Put: shared memory")
	}
	if shares(one.Data, s) || shares(two.Data, s) || shares(one.Data, two.Data) {
		t.Error("Get: shared memory")
	}
}

// P5.1 with R5: several goroutines at one time.
func TestAtOneTime(t *testing.T) {
	var group sync.WaitGroup
	for range 8 {
		group.Go(func() {
			for _, c := range ordinary {
				checkIs(t, c.r, c.s)
				checkNoGet(t, c.s[1:])
				checkNot(t, api.Reply{Kind: c.r.Kind, Half: 1, Session: 1})
			}
		})
	}
	group.Wait()
}
