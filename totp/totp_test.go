package totp

import (
	"math"
	"math/rand"
	"strings"
	"sync"
	"testing"

	"bastion/api"
	"bastion/book"
	"bastion/craft"
)

// lastStep is the step of the last tick.
const lastStep = 34953

// noNumbers are below 0 or above MaxNum.
var noNumbers = []int{-1, -2, -7, -255, -256, math.MinInt32, math.MinInt, api.MaxNum + 1, math.MaxInt32, 1 << 32, 1<<32 + 7, math.MaxInt}

// noSteps are no steps of any code.
var noSteps = append([]int{0, api.MaxTick + 1, api.MaxTick + 2, 1 << 24, api.MaxNum}, noNumbers...)

// noTicks are below 0 or above MaxTick.
var noTicks = append([]int{api.MaxTick + 1, api.MaxTick + 2, api.MaxTick + api.StepTicks, 1 << 24, api.MaxNum}, noNumbers...)

// num gives a number's bytes, by layer 1's words.
func num(x int) string {
	out := ""
	for ; x > 0; x /= 256 {
		out = string([]byte{byte(x % 256)}) + out
	}
	return string([]byte{byte(len(out))}) + out
}

// term gives a code's bytes, by layer 3's words.
func term(secret, step int) string {
	return "M" + num(secret) + "code" + num(step)
}

// start gives a book of at most so many terms.
func start(t *testing.T, most int) *book.Book {
	t.Helper()
	b, e := book.New(most)
	if b == nil || e != api.OK {
		t.Fatalf("New(%d): %d", most, e)
	}
	return b
}

// named names a term straight in a book.
func named(t *testing.T, b *book.Book, s string) int {
	t.Helper()
	name, e := b.Name(s)
	if e != api.OK {
		t.Fatalf("Name(%q): %d", s, e)
	}
	return name
}

// made gives a code as Code makes it.
func made(t *testing.T, b *book.Book, secret, step int) int {
	t.Helper()
	code, e := Code(b, secret, step)
	if e != api.OK {
		t.Fatalf("Code(%d, %d): %d", secret, step, e)
	}
	return code
}

func checkLen(t *testing.T, b *book.Book, want int) {
	t.Helper()
	if n := b.Len(); n != want {
		t.Errorf("Len: %d, want %d", n, want)
	}
}

func checkStep(t *testing.T, tick, step int) {
	t.Helper()
	if got := Step(tick); got != step {
		t.Errorf("Step(%d): %d, want %d", tick, got, step)
	}
}

// checkCode tells that a code has that name, which is of the code's bytes.
func checkCode(t *testing.T, b *book.Book, secret, step, name int) {
	t.Helper()
	if code, e := Code(b, secret, step); code != name || e != api.OK {
		t.Errorf("Code(%d, %d): %d, %d, want %d", secret, step, code, e, name)
	}
	if s, e := b.Term(name); s != term(secret, step) || e != api.OK {
		t.Errorf("Code(%d, %d): it names %q, %d, want %q", secret, step, s, e, term(secret, step))
	}
}

// checkNoCode tells that a code is refused, and nothing named.
func checkNoCode(t *testing.T, b *book.Book, secret, step int) {
	t.Helper()
	n := b.Len()
	if code, e := Code(b, secret, step); code != 0 || e != api.ErrTotpForm {
		t.Errorf("Code(%d, %d): %d, %d, want ErrTotpForm", secret, step, code, e)
	}
	checkLen(t, b, n)
}

// checkAccept tells for which step a code is taken (0: none), and that asking names nothing.
func checkAccept(t *testing.T, b *book.Book, secret, last, tick, code, step int) {
	t.Helper()
	n := b.Len()
	if got, is := Accept(b, secret, last, tick, code); got != step || is != (step > 0) {
		t.Errorf("Accept(%d, %d, %d, %d): %d, %v, want %d", secret, last, tick, code, got, is, step)
	}
	checkLen(t, b, n)
}

// checkLasts tells for each last number taken that a code is taken for its step just above it.
func checkLasts(t *testing.T, b *book.Book, secret, tick, code, step int) {
	t.Helper()
	for _, last := range []int{math.MinInt, math.MinInt32, -2, -1, 0, step - 3, step - 2, step - 1} {
		if last < step {
			checkAccept(t, b, secret, last, tick, code, step)
		}
	}
	for _, last := range []int{step, step + 1, step + 2, step + 3, lastStep + 1, api.MaxTick, api.MaxNum, math.MaxInt32, math.MaxInt} {
		checkAccept(t, b, secret, last, tick, code, 0)
	}
}

// P12.1: the steps of ticks, at the edges.
func TestStep(t *testing.T) {
	for _, r := range [][2]int{
		{0, 1}, {1, 1}, {15, 1}, {28, 1}, {29, 1}, {30, 2}, {31, 2}, {59, 2}, {60, 3}, {89, 3}, {90, 4}, {299, 10}, {300, 11},
		{7649, 255}, {7650, 256}, {65535, 2185}, {65536, 2185}, {1048559, 34952}, {1048560, lastStep}, {api.MaxTick - 1, lastStep}, {api.MaxTick, lastStep},
	} {
		checkStep(t, r[0], r[1])
	}
	for _, tick := range noTicks {
		checkStep(t, tick, 0)
	}
	for tick := -100; tick < 0; tick++ {
		checkStep(t, tick, 0)
	}
}

// P12.1: the step of each tick, counted one by one.
func TestEachStep(t *testing.T) {
	tick := 0
	for step := 1; step <= lastStep; step++ {
		for range api.StepTicks {
			if tick > api.MaxTick {
				break
			}
			checkStep(t, tick, step)
			tick++
		}
	}
	if tick != api.MaxTick+1 {
		t.Errorf("%d ticks", tick)
	}
}

// P12.1: each code is the tag of its secret over its step; made again it is the same.
func TestCode(t *testing.T) {
	rows := []struct {
		secret, step int
		term         string
	}{
		{7, 1, "M\x01\x07code\x01\x01"}, {7, 2, "M\x01\x07code\x01\x02"}, {8, 1, "M\x01\x08code\x01\x01"},
		{0, 1, "M\x00code\x01\x01"}, {1, 1, "M\x01\x01code\x01\x01"}, {1, 255, "M\x01\x01code\x01\xff"}, {300, 256, "M\x02\x01\x2ccode\x02\x01\x00"},
		{256, 300, "M\x02\x01\x00code\x02\x01\x2c"}, {0, lastStep, "M\x00code\x02\x88\x89"}, {65536, 65535, "M\x03\x01\x00\x00code\x02\xff\xff"},
		{16777216, 65536, "M\x04\x01\x00\x00\x00code\x03\x01\x00\x00"}, {api.MaxNum - 1, api.MaxTick - 1, "M\x04\x3f\xff\xff\xfecode\x03\x0f\xff\xfe"},
		{api.MaxNum, 1, "M\x04\x3f\xff\xff\xffcode\x01\x01"}, {api.MaxNum, api.MaxTick, "M\x04\x3f\xff\xff\xffcode\x03\x0f\xff\xff"}, {0, api.MaxTick, "M\x00code\x03\x0f\xff\xff"},
	}
	b := start(t, len(rows))
	for range 2 {
		for name, r := range rows {
			checkCode(t, b, r.secret, r.step, name)
			if s, e := b.Term(name); s != r.term || e != api.OK {
				t.Errorf("Code(%d, %d): it names %q, %d, want %q", r.secret, r.step, s, e, r.term)
			}
		}
		checkLen(t, b, len(rows))
	}
}

// P12.1: what is no step, and what is no secret, has no code.
func TestNoCode(t *testing.T) {
	b := start(t, 100)
	for _, step := range noSteps {
		for _, secret := range []int{0, 7, api.MaxNum} {
			checkNoCode(t, b, secret, step)
		}
	}
	for _, secret := range noNumbers {
		for _, step := range []int{1, 2, lastStep, api.MaxTick} {
			checkNoCode(t, b, secret, step)
		}
	}
	checkLen(t, b, 0)
	checkCode(t, b, 7, 1, 0)
}

// P12.1: a full book gives the codes that it has, and no more; they are asked as before.
func TestFull(t *testing.T) {
	b := start(t, 3)
	name := named(t, b, "x")
	checkCode(t, b, 7, 1, name+1)
	checkCode(t, b, 7, 3, name+2)
	for range 2 {
		checkNoCode(t, b, 7, 2)
		checkNoCode(t, b, 8, 1)
		checkNoCode(t, b, 0, api.MaxTick)
		checkCode(t, b, 7, 1, name+1)
		checkCode(t, b, 7, 3, name+2)
		checkAccept(t, b, 7, 0, 30, name+1, 1)
		checkAccept(t, b, 7, 0, 30, name+2, 3)
		checkAccept(t, b, 7, 0, 30, name, 0)
	}
	one := start(t, 1)
	checkCode(t, one, 7, 1, 0)
	checkNoCode(t, one, 7, 2)
	checkAccept(t, one, 7, 0, 0, 0, 1)
}

// P12.1: a code's term that stands in the book already is the code, be it the book's last place or not.
func TestNamed(t *testing.T) {
	b := start(t, 3)
	for name, s := range []string{term(7, 2), "x", term(api.MaxNum, api.MaxTick)} {
		if got := named(t, b, s); got != name {
			t.Fatalf("Name(%q): %d, want %d", s, got, name)
		}
	}
	checkCode(t, b, 7, 2, 0)
	checkCode(t, b, api.MaxNum, api.MaxTick, 2)
	checkLasts(t, b, 7, 30, 0, 2)
	checkNoCode(t, b, 7, 1)
}

// P12.1: a code is taken at its step's ticks and at those of the steps behind and ahead, and at no other.
func TestTicks(t *testing.T) {
	b := start(t, 1000)
	for _, secret := range []int{0, 7, 300, api.MaxNum} {
		for _, step := range []int{1, 2, 3, 4, 5, 100, 255, 256, lastStep - 2, lastStep - 1, lastStep, lastStep + 1} {
			code := made(t, b, secret, step)
			first := (step - 1) * api.StepTicks
			for tick := first - 3*api.StepTicks; tick < first+4*api.StepTicks; tick++ {
				want := 0
				if tick >= first-api.StepTicks && tick < first+2*api.StepTicks && tick >= 0 && tick <= api.MaxTick {
					want = step
				}
				checkAccept(t, b, secret, 0, tick, code, want)
				checkAccept(t, b, secret, step-1, tick, code, want)
				checkAccept(t, b, secret, step, tick, code, 0)
			}
		}
	}
}

// P12.1: the first ticks of all and the last ones, told one by one.
func TestEdges(t *testing.T) {
	b := start(t, 100)
	for name, step := range []int{1, 2, 3, lastStep - 2, lastStep - 1, lastStep, lastStep + 1, lastStep + 2, api.MaxTick} {
		checkCode(t, b, 7, step, name)
	}
	for _, r := range []struct {
		tick  int
		steps [9]int
	}{
		{0, [9]int{1, 2}}, {1, [9]int{1, 2}}, {29, [9]int{1, 2}}, {30, [9]int{1, 2, 3}}, {59, [9]int{1, 2, 3}}, {60, [9]int{0, 2, 3}},
		{89, [9]int{0, 2, 3}}, {90, [9]int{0, 0, 3}}, {119, [9]int{0, 0, 3}}, {120, [9]int{}},
		{34949*api.StepTicks - 1, [9]int{}}, {34949 * api.StepTicks, [9]int{3: lastStep - 2}}, {34950 * api.StepTicks, [9]int{3: lastStep - 2, lastStep - 1}},
		{34951*api.StepTicks - 1, [9]int{3: lastStep - 2, lastStep - 1}}, {34951 * api.StepTicks, [9]int{3: lastStep - 2, lastStep - 1, lastStep}},
		{1048559, [9]int{3: lastStep - 2, lastStep - 1, lastStep}}, {1048560, [9]int{4: lastStep - 1, lastStep, lastStep + 1}},
		{api.MaxTick - 1, [9]int{4: lastStep - 1, lastStep, lastStep + 1}}, {api.MaxTick, [9]int{4: lastStep - 1, lastStep, lastStep + 1}},
		{api.MaxTick + 1, [9]int{}}, {api.MaxTick + 14, [9]int{}}, {api.MaxTick + 15, [9]int{}}, {api.MaxTick + 60, [9]int{}}, {-1, [9]int{}}, {-29, [9]int{}}, {-30, [9]int{}},
	} {
		for code, step := range r.steps {
			checkAccept(t, b, 7, 0, r.tick, code, step)
			checkAccept(t, b, 7, math.MinInt, r.tick, code, step)
		}
	}
}

// P12.1: at what is no tick no code is taken, be it of the first step or of any.
func TestNoTicks(t *testing.T) {
	b := start(t, 100)
	for name, step := range []int{1, 2, 3, lastStep - 1, lastStep, lastStep + 1, lastStep + 2, api.MaxTick} {
		checkCode(t, b, 7, step, name)
		for _, tick := range noTicks {
			for _, last := range []int{math.MinInt, -2, -1, 0, 1, step - 1, step} {
				checkAccept(t, b, 7, last, tick, name, 0)
			}
		}
	}
}

// P12.1: a code is taken above the last one that was taken, whatever that is.
func TestLast(t *testing.T) {
	b := start(t, 1000)
	for _, now := range []int{1, 2, 3, 10, 256, lastStep - 1, lastStep} {
		tick := (now - 1) * api.StepTicks
		for step := max(1, now-1); step <= now+1; step++ {
			checkLasts(t, b, 7, tick, made(t, b, 7, step), step)
		}
		if step := now - 2; step > 0 {
			checkAccept(t, b, 7, 0, tick, made(t, b, 7, step), 0)
		}
		checkAccept(t, b, 7, 0, tick, made(t, b, 7, now+2), 0)
	}
}

// P12.1: of the three steps each is asked, from 1 on and above the last one, and the least that fits is told.
func TestLeast(t *testing.T) {
	for _, r := range []struct {
		now, last int
		fits      []int
		asked     []int
		want      int
	}{
		{5, 0, []int{4, 5, 6}, []int{4}, 4}, {5, 3, []int{6, 5, 4}, []int{4}, 4}, {5, 0, []int{5, 6}, []int{4, 5}, 5}, {5, 0, []int{4, 6}, []int{4}, 4},
		{5, 0, []int{6}, []int{4, 5, 6}, 6}, {5, 0, nil, []int{4, 5, 6}, 0}, {5, 0, []int{1, 2, 3, 7, 8}, []int{4, 5, 6}, 0},
		{5, 4, []int{4, 5, 6}, []int{5}, 5}, {5, 4, []int{4, 6}, []int{5, 6}, 6}, {5, 5, []int{4, 5, 6}, []int{6}, 6}, {5, 5, []int{4, 5}, []int{6}, 0},
		{5, 6, []int{4, 5, 6, 7}, nil, 0}, {5, 7, []int{4, 5, 6, 7, 8}, nil, 0}, {5, math.MaxInt, []int{4, 5, 6}, nil, 0}, {5, math.MinInt, []int{4, 5, 6}, []int{4}, 4},
		{1, 0, []int{0, 1, 2}, []int{1}, 1}, {1, -1, []int{0, 1, 2}, []int{1}, 1}, {1, -2, []int{-1, 0, 1, 2}, []int{1}, 1}, {1, -1, []int{0}, []int{1, 2}, 0},
		{1, 1, []int{0, 1, 2}, []int{2}, 2}, {1, 2, []int{0, 1, 2}, nil, 0}, {2, -1, []int{0, 1, 2, 3}, []int{1}, 1}, {2, 1, []int{1, 2, 3}, []int{2}, 2},
		{0, -2, []int{-1, 0, 1}, nil, 0}, {0, 0, []int{-1, 0, 1}, nil, 0}, {lastStep, 0, []int{lastStep + 1}, []int{lastStep - 1, lastStep, lastStep + 1}, lastStep + 1},
	} {
		var asked []int
		step, is := least(r.now, r.last, func(step int) bool {
			asked = append(asked, step)
			for _, x := range r.fits {
				if x == step {
					return true
				}
			}
			return false
		})
		if step != r.want || is != (r.want > 0) {
			t.Errorf("least(%d, %d) of %v: %d, %v, want %d", r.now, r.last, r.fits, step, is, r.want)
		}
		if len(asked) != len(r.asked) {
			t.Errorf("least(%d, %d) of %v: asked %v, want %v", r.now, r.last, r.fits, asked, r.asked)
			continue
		}
		for i, x := range r.asked {
			if asked[i] != x {
				t.Errorf("least(%d, %d) of %v: asked %v, want %v", r.now, r.last, r.fits, asked, r.asked)
			}
		}
	}
}

// P12.1 with T3: a code that was taken is taken no more, nor one of a step ahead of it.
func TestOnce(t *testing.T) {
	b := start(t, 100)
	var codes []int
	for step := 1; step <= 20; step++ {
		codes = append(codes, made(t, b, 7, step))
	}
	last := 0
	for tick := range 19 * api.StepTicks {
		for _, code := range codes {
			step, is := Accept(b, 7, last, tick, code)
			if !is {
				continue
			}
			if step <= last || step != code+1 {
				t.Errorf("at %d: %d behind %d", tick, step, last)
			}
			last = step
		}
		if last != tick/api.StepTicks+2 {
			t.Errorf("at %d: %d", tick, last)
		}
		for _, code := range codes {
			checkAccept(t, b, 7, last, tick, code, 0)
		}
	}
}

// P12.1: codes of another secret, and with one that is no secret.
func TestSecrets(t *testing.T) {
	b := start(t, 1000)
	secrets := []int{0, 1, 7, 8, 255, 256, 257, 263, 65536, 65543, 16777216, 16777223, api.MaxNum - 1, api.MaxNum}
	for _, secret := range secrets {
		for step := 1; step <= 3; step++ {
			code := made(t, b, secret, step)
			for _, other := range secrets {
				want := 0
				if other == secret {
					want = step
				}
				checkAccept(t, b, other, 0, 30, code, want)
			}
			for _, other := range noNumbers {
				checkAccept(t, b, other, 0, 30, code, 0)
			}
		}
	}
	n := b.Len()
	for _, other := range noNumbers {
		for code := range n {
			checkAccept(t, b, other, -1, 0, code, 0)
		}
	}
}

// P12.1: terms of other kinds, of other texts, of numbers that no layer writes so, are no codes.
func TestOtherTerms(t *testing.T) {
	b := start(t, 100)
	own := "code" + num(2)
	for _, other := range []func() (int, api.Errno){
		func() (int, api.Errno) { return craft.Atom(b, own) },
		func() (int, api.Errno) { return craft.Hash(b, own) },
		func() (int, api.Errno) { return craft.Seal(b, 7, own) },
		func() (int, api.Errno) { return craft.Atom(b, num(7)+own) },
		func() (int, api.Errno) { return craft.Hash(b, num(7)+own) },
		func() (int, api.Errno) { return craft.Mac(b, 7, "key"+num(2)) },
		func() (int, api.Errno) { return craft.Mac(b, 7, num(2)) },
		func() (int, api.Errno) { return craft.Mac(b, 7, "code") },
		func() (int, api.Errno) { return craft.Mac(b, 7, "Code"+num(2)) },
		func() (int, api.Errno) { return craft.Mac(b, 7, "code2") },
		func() (int, api.Errno) { return craft.Mac(b, 7, "code\x02\x00\x02") },
		func() (int, api.Errno) { return craft.Mac(b, 7, "code\x01\x00") },
		func() (int, api.Errno) { return craft.Mac(b, 7, "code"+num(0)) },
		func() (int, api.Errno) { return craft.Mac(b, 7, own+"\x00") },
		func() (int, api.Errno) { return craft.Mac(b, 7, own+num(2)) },
		func() (int, api.Errno) { return craft.Mac(b, 7, num(4)+own) },
		func() (int, api.Errno) { return craft.Mac(b, 2, "code"+num(7)) },
		func() (int, api.Errno) { return b.Name(own) },
		func() (int, api.Errno) { return b.Name("M" + own) },
		func() (int, api.Errno) { return b.Name("M\x02\x00\x07" + own) },
		func() (int, api.Errno) { return b.Name(strings.Repeat("M", api.MaxTerm)) },
	} {
		name, e := other()
		if e != api.OK {
			t.Fatal(e)
		}
		for _, tick := range []int{0, 29, 30, 59, 60, 89} {
			for _, last := range []int{-2, -1, 0, 1} {
				checkAccept(t, b, 7, last, tick, name, 0)
			}
		}
	}
	checkAccept(t, b, 7, 0, 30, made(t, b, 7, 2), 2)
}

// P12.1: a code that nobody made is none, and isn't made by its being asked, whatever tag is told.
func TestAsked(t *testing.T) {
	b := start(t, 10)
	tags := append([]int{0, 1, 2, 3, 4, 9, 10, 9999, api.MaxTerms - 1, api.MaxTerms, api.MaxNum}, noNumbers...)
	for range 2 {
		for _, tag := range tags {
			for _, tick := range []int{0, 30, 60, api.MaxTick} {
				checkAccept(t, b, 7, 0, tick, tag, 0)
			}
		}
	}
	checkLen(t, b, 0)
	checkCode(t, b, 7, 2, 0)
	for _, tag := range tags {
		want := 0
		if tag == 0 {
			want = 2
		}
		checkAccept(t, b, 7, 0, 30, tag, want)
	}
	checkCode(t, b, 7, 3, 1)
	checkLen(t, b, 2)
}

// P12.1 with R3 and R6: a nil book, told ahead of what else is wrong.
func TestNil(t *testing.T) {
	for _, secret := range append([]int{0, 7, api.MaxNum}, noNumbers...) {
		for _, step := range append([]int{1, 2, api.MaxTick}, noSteps...) {
			if code, e := Code(nil, secret, step); code != 0 || e != api.ErrNil {
				t.Errorf("Code(nil, %d, %d): %d, %d, want ErrNil", secret, step, code, e)
			}
			for _, tick := range []int{-1, 0, 30, api.MaxTick, api.MaxTick + 1} {
				if got, is := Accept(nil, secret, -1, tick, step); got != 0 || is {
					t.Errorf("Accept(nil, %d, -1, %d, %d): %d, %v", secret, tick, step, got, is)
				}
			}
		}
	}
}

// P12.1 with R2 and R6: several errors at once, each of them with nothing beside it.
func TestSeveral(t *testing.T) {
	full := start(t, 1)
	named(t, full, "x")
	for _, b := range []*book.Book{start(t, 10), full} {
		for _, secret := range noNumbers {
			for _, step := range noSteps {
				checkNoCode(t, b, secret, step)
				checkAccept(t, b, secret, step, step, secret, 0)
			}
		}
	}
	for _, step := range noSteps {
		checkNoCode(t, full, 7, step)
	}
}

// P12.1 with R1: a book that layer 2 did not make holds no codes, and makes none.
func TestUnmade(t *testing.T) {
	b := new(book.Book)
	checkNoCode(t, b, 7, 1)
	checkAccept(t, b, 7, 0, 0, 0, 0)
}

// P12.1 with R5: a code is of the book that it was made in; asking again tells the same.
func TestBooks(t *testing.T) {
	one, two := start(t, 10), start(t, 10)
	checkCode(t, one, 7, 1, 0)
	checkCode(t, one, 7, 2, 1)
	checkAccept(t, two, 7, 0, 30, 1, 0)
	checkCode(t, two, 7, 2, 0)
	for range 2 {
		checkAccept(t, one, 7, 0, 30, 1, 2)
		checkAccept(t, one, 7, 0, 30, 0, 1)
		checkAccept(t, two, 7, 0, 30, 0, 2)
		checkAccept(t, two, 7, 0, 30, 1, 0)
	}
}

// read is Accept by the chapter's words, over the terms of a book, read straight.
func read(row []string, secret, last, tick, code int) int {
	if tick < 0 || tick > api.MaxTick || secret < 0 || secret > api.MaxNum || code < 0 || code >= len(row) {
		return 0
	}
	now := 1
	for end := api.StepTicks; end <= tick; end += api.StepTicks {
		now++
	}
	for step := 1; step <= now+1; step++ {
		if step >= now-1 && step > last && row[code] == term(secret, step) {
			return step
		}
	}
	return 0
}

// P12.1: rows of calls held against a plain reader of the chapter's words.
func TestRandom(t *testing.T) {
	r := rand.New(rand.NewSource(12))
	secrets := []int{0, 7, 8, 300, api.MaxNum, -1, api.MaxNum + 1}
	for range 100 {
		most := 1 + r.Intn(30)
		b := start(t, most)
		var row []string
		for range 300 {
			secret, step := secrets[r.Intn(len(secrets))], r.Intn(14)-1
			if r.Intn(4) == 0 {
				code, e := Code(b, secret, step)
				name, is := place(row, term(max(0, secret), max(0, step)))
				may := secret >= 0 && secret <= api.MaxNum && step >= 1
				switch {
				case !may || !is && len(row) == most:
					if code != 0 || e != api.ErrTotpForm {
						t.Fatalf("Code(%d, %d): %d, %d", secret, step, code, e)
					}
				case code != name || e != api.OK:
					t.Fatalf("Code(%d, %d): %d, %d, want %d", secret, step, code, e, name)
				case !is:
					row = append(row, term(secret, step))
				}
			}
			last, tick, code := r.Intn(15)-2, r.Intn(13*api.StepTicks)-api.StepTicks, r.Intn(most+2)-1
			checkAccept(t, b, secret, last, tick, code, read(row, secret, last, tick, code))
			checkLen(t, b, len(row))
		}
	}
}

// place tells where a text stands in a row, or would stand, and whether it does.
func place(row []string, s string) (int, bool) {
	for i, x := range row {
		if x == s {
			return i, true
		}
	}
	return len(row), false
}

// P12.1 with R5: several goroutines at one time, each with a book.
func TestAtOneTime(t *testing.T) {
	var all sync.WaitGroup
	for k := range 8 {
		b := start(t, 40)
		all.Go(func() {
			for name := range 40 {
				checkCode(t, b, k, name+1, name)
				checkAccept(t, b, k, name, name*api.StepTicks, name, name+1)
				checkAccept(t, b, k+1, name, name*api.StepTicks, name, 0)
			}
		})
	}
	all.Wait()
}

// P12.1: a book of MaxTerms terms is asked as fast as a small one: by three steps.
func TestSize(t *testing.T) {
	b := start(t, api.MaxTerms)
	for step := 1; step <= api.MaxTerms; step++ {
		if code, e := Code(b, 7, step); code != step-1 || e != api.OK {
			t.Fatalf("Code(7, %d): %d, %d", step, code, e)
		}
	}
	checkNoCode(t, b, 7, api.MaxTerms+1)
	for tick := range api.MaxTick + 1 {
		code := tick / api.StepTicks
		if step, is := Accept(b, 7, code, tick, code); step != code+1 || !is {
			t.Fatalf("Accept(7, %d, %d, %d): %d, %v", code, tick, code, step, is)
		}
	}
}
