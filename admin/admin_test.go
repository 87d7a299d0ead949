package admin

import (
	"math"
	"strconv"
	"strings"
	"sync"
	"testing"

	"bastion/api"
)

// Numbers with their bytes, written out.
const (
	maxNum     = "\x04\x3f\xff\xff\xff"
	overNum    = "\x04\x40\x00\x00\x00"
	maxQuota   = "\x03\x10\x00\x00"
	overQuota  = "\x03\x10\x00\x01"
	threeFifty = "\x02\x01\x5e"
)

// number is one of a command's numbers: its name, and where it stands.
type number struct {
	name string
	at   func(*api.Admin) *int
}

// all are a command's numbers, but for its kind.
var all = []number{
	{"User", func(a *api.Admin) *int { return &a.User }},
	{"Key", func(a *api.Admin) *int { return &a.Key }},
	{"Secret", func(a *api.Admin) *int { return &a.Secret }},
	{"Quota", func(a *api.Admin) *int { return &a.Quota }},
	{"Session", func(a *api.Admin) *int { return &a.Session }},
}

// part is a number that a kind names, and the greatest that it may be there.
type part struct {
	name string
	most int
}

// kinds are the kinds with their bytes and their numbers in their row.
var kinds = []struct {
	kind int
	s    string
	row  []part
}{
	{api.AdminUser, "\x00", []part{{"User", 7}, {"Key", 1073741823}, {"Secret", 1073741823}, {"Quota", 1048576}}},
	{api.AdminUnlock, "\x01\x01", []part{{"User", 7}}},
	{api.AdminRevoke, "\x01\x02", []part{{"User", 7}}},
	{api.AdminRotate, "\x01\x03", nil},
	{api.AdminKick, "\x01\x04", []part{{"Session", 1073741823}}},
}

// noKinds are numbers that are no kinds.
var noKinds = []int{-1, -2, -5, -256, math.MinInt32, math.MinInt, 5, 6, 7, 63, 64, 255, 256, 65536, api.MaxNum, api.MaxNum + 1, 1 << 32, 1<<32 + 1, 1<<32 + 3, math.MaxInt}

// noNumbers are no numbers of layer 1.
var noNumbers = []int{-1, -2, -256, math.MinInt32, math.MinInt, api.MaxNum + 1, math.MaxInt32, 1 << 32, 1<<32 + 1, math.MaxInt}

// find gives the number of a name.
func find(t *testing.T, name string) number {
	t.Helper()
	for _, n := range all {
		if n.name == name {
			return n
		}
	}
	t.Fatalf("no number %s", name)
	return number{}
}

// tell is a command for a message.
func tell(a api.Admin) string {
	out := "kind " + strconv.Itoa(a.Kind)
	for _, n := range all {
		if x := *n.at(&a); x != 0 {
			out += ", " + n.name + " " + strconv.Itoa(x)
		}
	}
	return out
}

// checkIs tells that a may be, that its bytes are s, and that it is got from them.
func checkIs(t *testing.T, a api.Admin, s string) {
	t.Helper()
	if !May(a) {
		t.Errorf("May of %s: false", tell(a))
	}
	if got, e := Put(a); got != s || e != api.OK {
		t.Errorf("Put of %s: %x, %d, want %x", tell(a), got, e, s)
	}
	if got, e := Get(s); got != a || e != api.OK {
		t.Errorf("Get(%x): %s, %d, want %s", s, tell(got), e, tell(a))
	}
}

// checkNot tells that a may not be.
func checkNot(t *testing.T, a api.Admin) {
	t.Helper()
	if May(a) {
		t.Errorf("May of %s: true", tell(a))
	}
	if got, e := Put(a); got != "" || e != api.ErrAdminForm {
		t.Errorf("Put of %s: %x, %d, want ErrAdminForm", tell(a), got, e)
	}
}

// checkNoGet tells that s is no command's bytes.
func checkNoGet(t *testing.T, s string) {
	t.Helper()
	if got, e := Get(s); got != (api.Admin{}) || e != api.ErrAdminForm {
		t.Errorf("Get(%x): %s, %d, want ErrAdminForm", s, tell(got), e)
	}
}

// checkBack tells that a may be and comes back from its bytes, and gives these.
func checkBack(t *testing.T, a api.Admin) string {
	t.Helper()
	s, e := Put(a)
	if !May(a) || s == "" || e != api.OK {
		t.Errorf("Put of %s: %x, %d", tell(a), s, e)
	}
	if got, e := Get(s); got != a || e != api.OK {
		t.Errorf("Get(%x): %s, %d, want %s", s, tell(got), e, tell(a))
	}
	return s
}

// ordinary are commands of each kind with their bytes.
var ordinary = []struct {
	a api.Admin
	s string
}{
	{api.Admin{Kind: api.AdminUser, User: 3, Key: 350, Secret: 65536, Quota: 5}, "\x00" + "\x01\x03" + threeFifty + "\x03\x01\x00\x00" + "\x01\x05"},
	{api.Admin{Kind: api.AdminUnlock, User: 2}, "\x01\x01" + "\x01\x02"},
	{api.Admin{Kind: api.AdminRevoke, User: 6}, "\x01\x02" + "\x01\x06"},
	{api.Admin{Kind: api.AdminRotate}, "\x01\x03"},
	{api.Admin{Kind: api.AdminKick, Session: 350}, "\x01\x04" + threeFifty},
	// All parts zero.
	{api.Admin{}, "\x00" + "\x00" + "\x00" + "\x00" + "\x00"},
	{api.Admin{Kind: api.AdminUnlock}, "\x01\x01" + "\x00"},
	{api.Admin{Kind: api.AdminRevoke}, "\x01\x02" + "\x00"},
	{api.Admin{Kind: api.AdminKick}, "\x01\x04" + "\x00"},
	// All parts the greatest.
	{api.Admin{Kind: api.AdminUser, User: api.MaxUsers - 1, Key: api.MaxNum, Secret: api.MaxNum, Quota: api.MaxQuota}, "\x00" + "\x01\x07" + maxNum + maxNum + maxQuota},
	{api.Admin{Kind: api.AdminUnlock, User: api.MaxUsers - 1}, "\x01\x01" + "\x01\x07"},
	{api.Admin{Kind: api.AdminRevoke, User: api.MaxUsers - 1}, "\x01\x02" + "\x01\x07"},
	{api.Admin{Kind: api.AdminKick, Session: api.MaxNum}, "\x01\x04" + maxNum},
}

// P6.1: commands of each kind and their bytes.
func TestOrdinary(t *testing.T) {
	for _, c := range ordinary {
		checkIs(t, c.a, c.s)
	}
}

// P6.1: each part has a place of its own, in the row of its kind.
func TestPlaces(t *testing.T) {
	for _, k := range kinds {
		for i, p := range k.row {
			a := api.Admin{Kind: k.kind}
			*find(t, p.name).at(&a) = 3
			checkIs(t, a, k.s+strings.Repeat("\x00", i)+"\x01\x03"+strings.Repeat("\x00", len(k.row)-i-1))
		}
	}
}

// P6.1: each number of each kind from 0 to its greatest; one beyond and the negative are refused.
func TestNumbers(t *testing.T) {
	for _, k := range kinds {
		for _, p := range k.row {
			n := find(t, p.name)
			a := api.Admin{Kind: k.kind}
			for _, x := range []int{0, 1, 2, 3, 6, 7, 8, 15, 16, 255, 256, 65535, 65536, 1048575, 1048576, 1048577, p.most - 1, p.most} {
				*n.at(&a) = x
				if x <= p.most {
					checkBack(t, a)
				} else {
					checkNot(t, a)
				}
			}
			for _, x := range append([]int{p.most + 1, p.most + 2, -p.most}, noNumbers...) {
				*n.at(&a) = x
				checkNot(t, a)
			}
		}
	}
}

// P6.1: User is below MaxUsers, in each kind that names it.
func TestUser(t *testing.T) {
	for x := 1; x < 256; x++ {
		letter := "\x01" + string([]byte{byte(x)})
		for _, c := range []struct {
			a api.Admin
			s string
		}{
			{api.Admin{Kind: api.AdminUser, User: x}, "\x00" + letter + "\x00\x00\x00"},
			{api.Admin{Kind: api.AdminUnlock, User: x}, "\x01\x01" + letter},
			{api.Admin{Kind: api.AdminRevoke, User: x}, "\x01\x02" + letter},
		} {
			if x < 8 {
				checkIs(t, c.a, c.s)
			} else {
				checkNot(t, c.a)
				checkNoGet(t, c.s)
			}
		}
	}
	for _, s := range []string{"\x00" + maxNum + "\x00\x00\x00", "\x01\x01" + maxNum, "\x01\x02" + "\x02\x01\x00", "\x01\x02" + "\x02\x01\x07"} {
		checkNoGet(t, s)
	}
}

// P6.1: Quota has a limit of its own; what is beyond it is a number, and no Quota.
func TestQuota(t *testing.T) {
	for _, quota := range []int{0, 1, 1048575, 1048576} {
		checkBack(t, api.Admin{User: 1, Key: 2, Secret: 3, Quota: quota})
	}
	for _, quota := range []int{1048577, 1048578, 2097152, 16777215, api.MaxNum, -1, -1048576} {
		checkNot(t, api.Admin{User: 1, Key: 2, Secret: 3, Quota: quota})
	}
	checkIs(t, api.Admin{Quota: 1048576}, "\x00\x00\x00\x00"+maxQuota)
	checkNoGet(t, "\x00\x00\x00\x00"+overQuota)
	checkNoGet(t, "\x00\x00\x00\x00"+maxNum)
}

// P6.1: Key, Secret and Session go to MaxNum, beyond Quota's limit and User's.
func TestWide(t *testing.T) {
	for _, x := range []int{8, 1048577, 1 << 29, api.MaxNum - 1, api.MaxNum} {
		checkBack(t, api.Admin{Key: x})
		checkBack(t, api.Admin{Secret: x})
		checkBack(t, api.Admin{Kind: api.AdminKick, Session: x})
	}
	for _, s := range []string{"\x00\x00" + overNum + "\x00\x00", "\x00\x00\x00" + overNum + "\x00", "\x01\x04" + overNum} {
		checkNoGet(t, s)
	}
}

// isNamed tells whether a kind names a number.
func isNamed(row []part, name string) bool {
	for _, p := range row {
		if p.name == name {
			return true
		}
	}
	return false
}

// P6.1: what a kind does not name is zero, each part by itself.
func TestNotNamed(t *testing.T) {
	for _, k := range kinds {
		for _, n := range all {
			if isNamed(k.row, n.name) {
				continue
			}
			for _, x := range []int{1, 7, api.MaxNum, -1, api.MaxNum + 1, math.MinInt, math.MaxInt} {
				a := api.Admin{Kind: k.kind}
				*n.at(&a) = x
				checkNot(t, a)
			}
		}
	}
}

// P6.1: what a kind does not name is zero, beside parts that it does name.
func TestNotNamedBeside(t *testing.T) {
	for _, c := range ordinary {
		for _, k := range kinds {
			if k.kind != c.a.Kind {
				continue
			}
			for _, n := range all {
				if !isNamed(k.row, n.name) {
					a := c.a
					*n.at(&a) = 1
					checkNot(t, a)
				}
			}
		}
	}
}

// P6.1: what is no kind, whatever its parts are.
func TestNoKinds(t *testing.T) {
	for _, kind := range noKinds {
		checkNot(t, api.Admin{Kind: kind})
		for _, c := range ordinary {
			a := c.a
			a.Kind = kind
			checkNot(t, a)
		}
	}
	for _, kind := range []string{"\x01\x05", "\x01\x06", "\x01\xff", "\x02\x01\x00", "\x02\x01\x03", "\x02\x01\x04", "\x03\x01\x00\x00", maxNum} {
		for n := range 6 {
			checkNoGet(t, kind+strings.Repeat("\x00", n))
		}
		checkNoGet(t, kind+"\x01\x01")
		checkNoGet(t, kind+maxNum)
	}
}

// P6.1: cut at each place, and with bytes left over, at the end and ahead.
func TestCuts(t *testing.T) {
	checkNoGet(t, "")
	for _, c := range ordinary {
		for k := range len(c.s) {
			checkNoGet(t, c.s[:k])
		}
		for b := range 256 {
			checkNoGet(t, c.s+string([]byte{byte(b)}))
		}
		checkNoGet(t, c.s+c.s)
		checkNoGet(t, c.s+maxNum)
		checkNoGet(t, c.s+strings.Repeat("\x00", 1<<20))
		checkNoGet(t, "\xff"+c.s)
		checkNoGet(t, "\x05"+c.s)
	}
	for _, s := range []string{"\x05", "\xff", "\x01", "\x04", "\x02\x01", "\x00\x01\x03\x00\x01", "\x01\x04\x04\x01\x01\x01", strings.Repeat("\xff", 1<<20)} {
		checkNoGet(t, s)
	}
}

// badNumbers are bytes of which layer 1 reads no number.
var badNumbers = []string{
	"\x01\x00", "\x02\x00\x00", "\x02\x00\x01", "\x03\x00\x01\x01", "\x04\x00\x01\x01\x01",
	overNum, "\x04\x80\x00\x00\x00", "\x04\xff\xff\xff\xff", "\x05\x01\x01\x01\x01\x01", "\xff\x01",
}

// P6.1: numbers that layer 1 refuses, in the place of the kind and of each part.
func TestBadNumbers(t *testing.T) {
	for _, bad := range badNumbers {
		for n := range 6 {
			checkNoGet(t, bad+strings.Repeat("\x00", n))
		}
		for _, k := range kinds {
			for i := range k.row {
				checkNoGet(t, k.s+strings.Repeat("\x00", i)+bad+strings.Repeat("\x00", len(k.row)-i-1))
			}
		}
	}
	// Kinds and parts that are right but for a 0 at their beginning.
	for _, c := range ordinary {
		if c.a.Kind != api.AdminUser {
			checkNoGet(t, "\x02\x00"+c.s[1:])
		}
	}
	checkNoGet(t, "\x01\x00"+"\x00\x00\x00\x00")
	checkNoGet(t, "\x01\x01"+"\x02\x00\x02")
}

// eachAdmin calls do with commands of each kind whose numbers are all out of a few.
func eachAdmin(t *testing.T, do func(api.Admin)) {
	few := []int{0, 1, 2, 3, 4, 5, 7, 255, 256, 257, 65536, api.MaxQuota}
	for _, k := range kinds {
		row := []api.Admin{{Kind: k.kind}}
		for _, p := range k.row {
			var more []api.Admin
			for _, a := range row {
				for _, x := range few {
					if x <= p.most {
						*find(t, p.name).at(&a) = x
						more = append(more, a)
					}
				}
			}
			row = more
		}
		for _, a := range row {
			do(a)
		}
	}
}

// P6.1: there and back; unlike commands have unlike bytes.
func TestBack(t *testing.T) {
	seen := map[string]api.Admin{}
	n := 0
	eachAdmin(t, func(a api.Admin) {
		s := checkBack(t, a)
		if other, is := seen[s]; is {
			t.Errorf("%s and %s: both %x", tell(a), tell(other), s)
		}
		seen[s] = a
		n++
	})
	if want := 7*12*12*12 + 7 + 7 + 1 + 12; n != want {
		t.Errorf("%d commands, want %d", n, want)
	}
}

// plainNum reads a number by layer 1's words, and gives what is left of s.
func plainNum(s string) (int, string, bool) {
	if s == "" || s[0] > 4 || len(s) < 1+int(s[0]) {
		return 0, "", false
	}
	n := int(s[0])
	x := 0
	for _, c := range []byte(s[1 : 1+n]) {
		x = x*256 + int(c)
	}
	if n > 0 && s[1] == 0 || x > api.MaxNum {
		return 0, "", false
	}
	return x, s[1+n:], true
}

// plainGet reads a command by the chapter's words, one after the other.
func plainGet(t *testing.T, s string) (api.Admin, bool) {
	kind, s, ok := plainNum(s)
	if !ok || kind > 4 {
		return api.Admin{}, false
	}
	a := api.Admin{Kind: kind}
	for _, p := range kinds[kind].row {
		n := find(t, p.name)
		*n.at(&a), s, ok = plainNum(s)
		if !ok || *n.at(&a) > p.most {
			return api.Admin{}, false
		}
	}
	if s != "" {
		return api.Admin{}, false
	}
	return a, true
}

// checkPlain tells that Get of s is what the chapter's words make of it, and that what it takes is put again byte for byte.
func checkPlain(t *testing.T, s string) {
	t.Helper()
	a, is := plainGet(t, s)
	if !is {
		checkNoGet(t, s)
		return
	}
	checkIs(t, a, s)
}

// eachText calls do with every text of at most n of the letters, behind what stands ahead.
func eachText(letters string, n int, ahead string, do func(string)) {
	do(ahead)
	if n == 0 {
		return
	}
	for _, c := range []byte(letters) {
		eachText(letters, n-1, ahead+string([]byte{c}), do)
	}
}

// P6.1: all short texts over the bytes that matter, from the beginning and behind each kind.
func TestShort(t *testing.T) {
	eachText("\x00\x01\x02\x03\x04\x05\x07\x08\xff", 5, "", func(s string) { checkPlain(t, s) })
	for _, k := range kinds {
		eachText("\x00\x01\x02\x05\x07\x08\xff", 5, k.s, func(s string) { checkPlain(t, s) })
	}
	eachText("\x00\x01\x02", 7, "\x00", func(s string) { checkPlain(t, s) })
	eachText("\x00\x01\x03\x0f\x10", 5, "\x00\x00\x00\x00", func(s string) { checkPlain(t, s) })
}

// P6.1: a command's bytes with any one of them another, left out, or one put in.
func TestTurned(t *testing.T) {
	for _, c := range ordinary {
		for k := range len(c.s) {
			for b := range 256 {
				letter := string([]byte{byte(b)})
				checkPlain(t, c.s[:k]+letter+c.s[k+1:])
				checkPlain(t, c.s[:k]+letter+c.s[k:])
			}
			checkPlain(t, c.s[:k]+c.s[k+1:])
		}
	}
}

// P6.1 with R5: several goroutines at one time.
func TestAtOneTime(t *testing.T) {
	var group sync.WaitGroup
	for range 8 {
		group.Go(func() {
			for _, c := range ordinary {
				checkIs(t, c.a, c.s)
				checkNoGet(t, c.s[1:])
				checkNot(t, api.Admin{Kind: c.a.Kind, User: 1, Session: 1})
			}
		})
	}
	group.Wait()
}
