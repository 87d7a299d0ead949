package field

import (
	"math"
	"strings"
	"sync"
	"testing"
	"unsafe"

	"bastion/api"
)

// maxNum is MaxNum, written out.
const maxNum = "\x04\x3f\xff\xff\xff"

// rows are numbers with their bytes: the least and the greatest of each length, and some between.
var rows = []struct {
	x int
	s string
}{
	{0, "\x00"},
	{1, "\x01\x01"},
	{7, "\x01\x07"},
	{255, "\x01\xff"},
	{256, "\x02\x01\x00"},
	{0x1234, "\x02\x12\x34"},
	{65535, "\x02\xff\xff"},
	{65536, "\x03\x01\x00\x00"},
	{0x123456, "\x03\x12\x34\x56"},
	{16777215, "\x03\xff\xff\xff"},
	{16777216, "\x04\x01\x00\x00\x00"},
	{0x12345678, "\x04\x12\x34\x56\x78"},
	{1073741822, "\x04\x3f\xff\xff\xfe"},
	{1073741823, maxNum},
}

func checkNum(t *testing.T, s string, at, x, to int, e api.Errno) {
	t.Helper()
	gotX, gotTo, gotE := GetNum(s, at)
	if gotX != x || gotTo != to || gotE != e {
		t.Errorf("GetNum(%q, %d): %d, %d, %d, want %d, %d, %d", s, at, gotX, gotTo, gotE, x, to, e)
	}
}

func checkText(t *testing.T, s string, at int, text string, to int, e api.Errno) {
	t.Helper()
	gotText, gotTo, gotE := GetText(s, at)
	if gotText != text || gotTo != to || gotE != e {
		t.Errorf("GetText of %d bytes, at %d: %d bytes, %d, %d, want %d bytes, %d, %d", len(s), at, len(gotText), gotTo, gotE, len(text), to, e)
	}
}

// P1.1: a number's bytes.
func TestNum(t *testing.T) {
	for _, r := range rows {
		if s, e := Num(r.x); s != r.s || e != api.OK {
			t.Errorf("Num(%d): %q, %d, want %q", r.x, s, e, r.s)
		}
	}
}

// P1.1: what is no number.
func TestNumForm(t *testing.T) {
	for _, x := range []int{-1, -255, math.MinInt32, math.MinInt, api.MaxNum + 1, math.MaxInt32, math.MaxInt} {
		if s, e := Num(x); s != "" || e != api.ErrFieldForm {
			t.Errorf("Num(%d): %q, %d, want ErrFieldForm", x, s, e)
		}
	}
}

// P1.1: numbers from their bytes, at the text's beginning, between others, and at its end.
func TestGetNum(t *testing.T) {
	for _, r := range rows {
		end := len(r.s)
		checkNum(t, r.s, 0, r.x, end, api.OK)
		checkNum(t, r.s+"\x01\x05", 0, r.x, end, api.OK)
		checkNum(t, "\xff\x00"+r.s+"\xff", 2, r.x, 2+end, api.OK)
		checkNum(t, "ab"+r.s, 2, r.x, 2+end, api.OK)
	}
}

// P1.1: a place outside the text, and at its end.
func TestGetNumPlace(t *testing.T) {
	for _, s := range []string{"", "\x00", "\x01\x01", maxNum} {
		checkNum(t, s, -1, 0, 0, api.ErrFieldForm)
		checkNum(t, s, math.MinInt, 0, 0, api.ErrFieldForm)
		checkNum(t, s, len(s), 0, 0, api.ErrFieldCut)
		checkNum(t, s, len(s)+1, 0, 0, api.ErrFieldForm)
		checkNum(t, s, math.MaxInt, 0, 0, api.ErrFieldForm)
	}
}

// P1.1: cuts within a number, at every place of it.
func TestGetNumCut(t *testing.T) {
	for _, r := range rows {
		for k := range len(r.s) {
			checkNum(t, r.s[:k], 0, 0, 0, api.ErrFieldCut)
			checkNum(t, "xyz"+r.s[:k], 3, 0, 0, api.ErrFieldCut)
		}
	}
}

// P1.1: a first byte above 4, whatever follows.
func TestGetNumFirst(t *testing.T) {
	for n := 5; n <= 255; n++ {
		first := string([]byte{byte(n)})
		checkNum(t, first, 0, 0, 0, api.ErrFieldForm)
		checkNum(t, first+strings.Repeat("\x01", n), 0, 0, 0, api.ErrFieldForm)
	}
}

// P1.1: a leading 0, and more than MaxNum; a cut is told ahead of these.
func TestGetNumForm(t *testing.T) {
	for _, s := range []string{
		"\x01\x00", "\x02\x00\x00", "\x02\x00\x01", "\x03\x00\x01\x01", "\x04\x00\x01\x01\x01", "\x04\x00\xff\xff\xff",
		"\x04\x40\x00\x00\x00", "\x04\x7f\xff\xff\xff", "\x04\x80\x00\x00\x00", "\x04\xff\xff\xff\xff",
	} {
		checkNum(t, s, 0, 0, 0, api.ErrFieldForm)
		checkNum(t, "\x00"+s+"\x00", 1, 0, 0, api.ErrFieldForm)
		checkNum(t, s[:len(s)-1], 0, 0, 0, api.ErrFieldCut)
	}
}

// plainNum reads a number by the document's words, one after the other.
func plainNum(s string, at int) (int, int, api.Errno) {
	if at < 0 || at > len(s) {
		return 0, 0, api.ErrFieldForm
	}
	rest := s[at:]
	if rest == "" {
		return 0, 0, api.ErrFieldCut
	}
	n := int(rest[0])
	if n > 4 {
		return 0, 0, api.ErrFieldForm
	}
	if len(rest) < 1+n {
		return 0, 0, api.ErrFieldCut
	}
	if n == 0 {
		return 0, at + 1, api.OK
	}
	x := int64(0)
	for _, c := range []byte(rest[1 : 1+n]) {
		x = x*256 + int64(c)
	}
	if rest[1] == 0 || x > api.MaxNum {
		return 0, 0, api.ErrFieldForm
	}
	return int(x), at + 1 + n, api.OK
}

// plainText reads a text so.
func plainText(s string, at int) (string, int, api.Errno) {
	n, from, e := plainNum(s, at)
	if e != api.OK {
		return "", 0, e
	}
	if n > api.MaxText {
		return "", 0, api.ErrFieldForm
	}
	if from+n > len(s) {
		return "", 0, api.ErrFieldCut
	}
	return s[from : from+n], from + n, api.OK
}

// eachText calls do with every text of at most n of the letters.
func eachText(letters string, n int, so string, do func(string)) {
	do(so)
	if n == 0 {
		return
	}
	for _, c := range []byte(letters) {
		eachText(letters, n-1, so+string([]byte{c}), do)
	}
}

// P1.1, P1.2: all short texts over the bytes that matter; what is read is written so again.
func TestShort(t *testing.T) {
	eachText("\x00\x01\x02\x03\x04\x05\x3f\x40\xff", 5, "", func(s string) {
		for at := -1; at <= len(s)+1; at++ {
			x, to, e := plainNum(s, at)
			checkNum(t, s, at, x, to, e)
			if again, f := Num(x); e == api.OK && (again != s[at:to] || f != api.OK) {
				t.Errorf("Num(%d): %q, %d, want %q", x, again, f, s[at:to])
			}
			text, to, e := plainText(s, at)
			checkText(t, s, at, text, to, e)
			if again, f := Text(text); e == api.OK && (again != s[at:to] || f != api.OK) {
				t.Errorf("Text(%q): %q, %d, want %q", text, again, f, s[at:to])
			}
		}
	})
}

// P1.1: there and back.
func TestNumBack(t *testing.T) {
	for x := 0; x <= api.MaxNum; x += 1 + x/1000 {
		s, e := Num(x)
		if e != api.OK {
			t.Fatalf("Num(%d): %d", x, e)
		}
		checkNum(t, s, 0, x, len(s), api.OK)
	}
}

// lengths are texts' lengths with their bytes.
var lengths = []struct {
	n int
	s string
}{
	{0, "\x00"}, {1, "\x01\x01"}, {64, "\x01\x40"}, {255, "\x01\xff"}, {256, "\x02\x01\x00"},
	{65535, "\x02\xff\xff"}, {api.MaxText, "\x03\x01\x00\x00"},
}

// P1.2: a text's bytes, and back; cuts within its length and within it.
func TestText(t *testing.T) {
	for _, r := range lengths {
		text := strings.Repeat("\x00\xff\x05a", r.n/4+1)[:r.n]
		s, e := Text(text)
		if s != r.s+text || e != api.OK {
			t.Errorf("Text of %d bytes: %d bytes, %d", r.n, len(s), e)
		}
		checkText(t, s, 0, text, len(s), api.OK)
		checkText(t, "\xff"+s+"\x00", 1, text, 1+len(s), api.OK)
		for k := range len(r.s) {
			checkText(t, s[:k], 0, "", 0, api.ErrFieldCut)
		}
		if r.n > 0 {
			checkText(t, s[:len(r.s)], 0, "", 0, api.ErrFieldCut)
			checkText(t, s[:len(s)-1], 0, "", 0, api.ErrFieldCut)
			checkText(t, "\x00"+s[:len(s)-1], 1, "", 0, api.ErrFieldCut)
		}
	}
}

// P1.2: any bytes are a text, such as are no runes too.
func TestTextBytes(t *testing.T) {
	for _, text := range []string{"abc", "\x00", "\x00\x00\x00", "\xff\xfe", "\xc3", "h\u00e9\u2603"} {
		want := string([]byte{1, byte(len(text))}) + text
		s, e := Text(text)
		if s != want || e != api.OK {
			t.Errorf("Text(%q): %q, %d", text, s, e)
		}
		checkText(t, want, 0, text, len(want), api.OK)
	}
}

// P1.2: a text that is too long; it is told ahead of a cut.
func TestTextForm(t *testing.T) {
	long := strings.Repeat("a", api.MaxText+1)
	for _, s := range []string{long, long + long} {
		if got, e := Text(s); got != "" || e != api.ErrFieldForm {
			t.Errorf("Text of %d bytes: %d bytes, %d, want ErrFieldForm", len(s), len(got), e)
		}
	}
	for _, n := range []string{"\x03\x01\x00\x01", "\x03\xff\xff\xff", "\x04\x01\x00\x00\x00", maxNum} {
		checkText(t, n+long, 0, "", 0, api.ErrFieldForm)
		checkText(t, n, 0, "", 0, api.ErrFieldForm)
	}
}

// P1.2: the errors of the length, in a text's place.
func TestGetTextNum(t *testing.T) {
	for _, s := range []string{"", "\x01\x01a"} {
		checkText(t, s, -1, "", 0, api.ErrFieldForm)
		checkText(t, s, math.MinInt, "", 0, api.ErrFieldForm)
		checkText(t, s, len(s), "", 0, api.ErrFieldCut)
		checkText(t, s, len(s)+1, "", 0, api.ErrFieldForm)
		checkText(t, s, math.MaxInt, "", 0, api.ErrFieldForm)
	}
	checkText(t, "\x05aaaaa", 0, "", 0, api.ErrFieldForm)
	checkText(t, "\x01\x00", 0, "", 0, api.ErrFieldForm)
	checkText(t, "\x02\x00\x01a", 0, "", 0, api.ErrFieldForm)
	checkText(t, "\x02\x00", 0, "", 0, api.ErrFieldCut)
	checkText(t, "\x04\x40\x00\x00\x00a", 0, "", 0, api.ErrFieldForm)
	checkText(t, "\x04\xff\xff\xff\xff", 0, "", 0, api.ErrFieldForm)
}

// P1.1, P1.2: a row of numbers and texts is read from end to end.
func TestRow(t *testing.T) {
	row := "\x01\x02" + "\x01\x03abc" + "\x00" + "\x00" + maxNum
	checkNum(t, row, 0, 2, 2, api.OK)
	checkText(t, row, 2, "abc", 7, api.OK)
	checkNum(t, row, 7, 0, 8, api.OK)
	checkText(t, row, 8, "", 9, api.OK)
	checkNum(t, row, 9, api.MaxNum, 14, api.OK)
	checkNum(t, row, 14, 0, 0, api.ErrFieldCut)
}

// shares tells whether a begins within b's memory.
func shares(a, b string) bool {
	from := uintptr(unsafe.Pointer(unsafe.StringData(b)))
	at := uintptr(unsafe.Pointer(unsafe.StringData(a)))
	return at >= from && at < from+uintptr(len(b))
}

// P1.2 with R4: a text that was read shares no memory with what it was read from.
func TestGetTextMemory(t *testing.T) {
	s, e := Text(strings.Repeat("abc", 100))
	one, _, f := GetText(s, 0)
	two, _, g := GetText(s, 0)
	if e != api.OK || f != api.OK || g != api.OK {
		t.Fatal(e, f, g)
	}
	if shares(one, s) || shares(two, s) || shares(one, two) {
		t.Error("GetText: shared memory")
	}
}

// P1.1, P1.2 with R5: several goroutines at one time.
func TestAtOneTime(t *testing.T) {
	var all sync.WaitGroup
	for range 8 {
		all.Go(func() {
			for _, r := range rows {
				checkNum(t, r.s, 0, r.x, len(r.s), api.OK)
				checkNum(t, r.s[:len(r.s)-1], 0, 0, 0, api.ErrFieldCut)
				checkText(t, "\x01\x01a", 0, "a", 3, api.OK)
				checkText(t, "\x01\x02a", 0, "", 0, api.ErrFieldCut)
			}
		})
	}
	all.Wait()
}
