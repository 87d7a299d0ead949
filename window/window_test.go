package window

import (
	"math"
	"math/rand"
	"slices"
	"sync"
	"testing"

	"bastion/api"
)

// allBits are those of a window of which every number came.
const allBits = 1<<api.WindowSize - 1

// below are numbers below 0; the last ones, cut to fewer bits, would be numbers that may be.
var below = []int{-1, -2, -3, -31, -32, -33, -255, -256, -api.MaxSeq, -api.MaxNum, math.MinInt32, -1 << 32, -1<<32 + 1, -1<<32 + 3, math.MinInt + 1, math.MinInt + 3, math.MinInt}

// above are numbers above MaxSeq.
var above = []int{api.MaxSeq + 1, api.MaxSeq + 2, 1 << 24, api.MaxNum, api.MaxNum + 1, math.MaxInt32, math.MaxInt32 + 1, 1 << 32, 1<<32 + 1, 1<<32 + 3, math.MaxInt - 1, math.MaxInt}

// noSeqs are no numbers that may come; noHighs no High that may be.
var (
	noSeqs  = slices.Concat(below, above)
	noHighs = slices.Concat(below[1:], above)
)

// highs are those at and about the edges, and some between them.
var highs = []int{-1, 0, 1, 2, 3, 5, 15, 16, api.WindowSize - 2, api.WindowSize - 1, api.WindowSize, api.WindowSize + 1, 40, 62, 63, 64, 65, 99, 255, 256, 65535, 65536, api.MaxSeq - 32, api.MaxSeq - 1, api.MaxSeq}

// shapes are rows of bits at and about the edges of a window of that High.
func shapes(high int) []int {
	row := []int{-1, 0, 1, 2, 3, 4, 5, 6, 7, allBits - 1, allBits, allBits + 1, allBits + 2, allBits>>1 - 1, allBits >> 1, allBits>>1 + 1, math.MinInt + 1, math.MinInt + 3, math.MaxInt - 1}
	row = append(row, 0x55555555, 0xaaaaaaaa, 0xaaaaaaab, 0x80000001, 0xc0000001, 0x80000003, 0xfffffffd, 0x7ffffffd)
	for at := range 64 {
		row = append(row, 1<<at, 1<<at|1, 1<<at-1, 1<<at+3)
	}
	if high >= 0 && high < 62 {
		row = append(row, 1<<(high+1)-1, 1<<(high+2)-1, 1<<(high+1)+1, 1<<high+1)
	}
	return append(row, below...)
}

// near are numbers at and about the edges of a window of that High.
func near(high int) []int {
	row := slices.Concat([]int{0, 1, 31, 32, 33, 64, api.MaxSeq - 1, api.MaxSeq}, noSeqs)
	for by := -70; by <= 70; by++ {
		row = append(row, high+by)
	}
	return row
}

// readMay is which windows may be, by the chapter's words, told bit by bit.
func readMay(w api.Window) bool {
	if w.High == -1 && w.Bits == 0 {
		return true
	}
	if w.High < 0 || w.High > 1048575 || w.Bits < 1 || w.Bits >= 4294967296 || w.Bits%2 == 0 {
		return false
	}
	for at, rest := 0, w.Bits; rest > 0; at, rest = at+1, rest/2 {
		if rest%2 == 1 && at > w.High {
			return false
		}
	}
	return true
}

// windowOf is the window of those numbers, by api's words.
func windowOf(came map[int]int) api.Window {
	w := api.Window{High: -1}
	for seq := range came {
		w.High = max(w.High, seq)
	}
	for at, worth := 0, 1; at < 32; at, worth = at+1, worth*2 {
		w.Bits += worth * came[w.High-at]
	}
	return w
}

// cameOf are the numbers that a window tells, each 1.
func cameOf(w api.Window) map[int]int {
	came := map[int]int{}
	for at, rest := 0, w.Bits; rest > 0; at, rest = at+1, rest/2 {
		if rest%2 == 1 {
			came[w.High-at] = 1
		}
	}
	return came
}

// readAdd is Add by the chapter's words.
func readAdd(w api.Window, seq int) (api.Window, api.Errno) {
	if !readMay(w) || seq < 0 || seq > 1048575 {
		return api.Window{}, 1700
	}
	came := cameOf(w)
	if seq <= w.High-32 || came[seq] == 1 {
		return api.Window{}, 1701
	}
	came[seq] = 1
	return windowOf(came), 0
}

// checkMay tells whether a window may be: May says so, and Add of the next number too.
func checkMay(t *testing.T, w api.Window, want bool) {
	t.Helper()
	if is := May(w); is != want {
		t.Errorf("May(%v): %t, want %t", w, is, want)
	}
	seq := min(max(w.High, -1), api.MaxSeq-1) + 1
	got, e := Add(w, seq)
	if (e != api.ErrWindowForm) != want || e != api.OK && got != (api.Window{}) {
		t.Errorf("Add(%v, %d): %v, %d, want that it may be: %t", w, seq, got, e, want)
	}
}

// checkAdd tells what a window is behind a number, twice (R5), and that it may be and tells the number now.
func checkAdd(t *testing.T, w api.Window, seq int, want api.Window) {
	t.Helper()
	for range 2 {
		if got, e := Add(w, seq); got != want || e != api.OK {
			t.Errorf("Add(%v, %d): %v, %d, want %v", w, seq, got, e, want)
		}
	}
	if !May(want) {
		t.Errorf("May(%v), behind %d: false", want, seq)
	}
	checkNoAdd(t, want, seq, api.ErrWindowOld)
}

// checkNoAdd tells that a number is refused, with nothing beside the error (R2).
func checkNoAdd(t *testing.T, w api.Window, seq int, want api.Errno) {
	t.Helper()
	if got, e := Add(w, seq); got != (api.Window{}) || e != want {
		t.Errorf("Add(%v, %d): %v, %d, want %d", w, seq, got, e, want)
	}
}

// checkRead tells that the two calls answer what the plain readers do.
func checkRead(t *testing.T, w api.Window, seq int) {
	t.Helper()
	if is, want := May(w), readMay(w); is != want {
		t.Fatalf("May(%v): %t, want %t", w, is, want)
	}
	got, e := Add(w, seq)
	if want, f := readAdd(w, seq); got != want || e != f {
		t.Fatalf("Add(%v, %d): %v, %d, want %v, %d", w, seq, got, e, want, f)
	}
}

// P17.1: a window into which nothing came has no bits.
func TestNone(t *testing.T) {
	checkMay(t, api.Window{High: -1}, true)
	for _, row := range shapes(-1) {
		if row != 0 {
			checkMay(t, api.Window{High: -1, Bits: row}, false)
		}
	}
	for _, seq := range []int{0, 1, 30, 31, 32, 33, 63, 64, 65, 255, 256, 65536, api.MaxSeq - 1, api.MaxSeq} {
		checkAdd(t, api.Window{High: -1}, seq, api.Window{High: seq, Bits: 1})
	}
	for _, seq := range noSeqs {
		checkNoAdd(t, api.Window{High: -1}, seq, api.ErrWindowForm)
	}
}

// P17.1: High at its limits and beyond.
func TestHighs(t *testing.T) {
	for _, high := range highs[1:] {
		checkMay(t, api.Window{High: high, Bits: 1}, true)
	}
	for _, high := range noHighs {
		for _, row := range []int{-1, 0, 1, 2, 3, 5, allBits, allBits + 1} {
			checkMay(t, api.Window{High: high, Bits: row}, false)
			checkNoAdd(t, api.Window{High: high, Bits: row}, 0, api.ErrWindowForm)
			checkNoAdd(t, api.Window{High: high, Bits: row}, api.MaxSeq, api.ErrWindowForm)
		}
	}
}

// P17.1: of each High from 0 on which single bits may be, and which of them beside High's own.
func TestSingleBits(t *testing.T) {
	for _, high := range highs[1:] {
		for at := range 64 {
			checkMay(t, api.Window{High: high, Bits: 1 << at}, at == 0)
			checkMay(t, api.Window{High: high, Bits: 1<<at | 1}, at < 32 && at <= high)
			checkMay(t, api.Window{High: high, Bits: allBits &^ 1 & (1 << at)}, false)
		}
	}
}

// P17.1: all bits up to the High-th, one more, one less, and one of them missing.
func TestAllBits(t *testing.T) {
	for high := range 70 {
		most := min(high, 31)
		row := 1<<(most+1) - 1
		checkMay(t, api.Window{High: high, Bits: row}, true)
		checkMay(t, api.Window{High: high, Bits: row + 1}, false)
		checkMay(t, api.Window{High: high, Bits: row + 2}, false)
		checkMay(t, api.Window{High: high, Bits: row*2 + 1}, false)
		checkMay(t, api.Window{High: high, Bits: row - 1}, false)
		for at := range most + 1 {
			checkMay(t, api.Window{High: high, Bits: row - 1<<at}, at > 0)
		}
	}
	for _, high := range []int{31, 32, 33, 40, 99, 1 << 16, api.MaxSeq - 1, api.MaxSeq} {
		for _, row := range []int{allBits, allBits - 2, allBits >> 1, 1<<31 + 1} {
			checkMay(t, api.Window{High: high, Bits: row}, true)
		}
		for _, row := range []int{allBits - 1, allBits + 1, allBits + 2, 1 << 31, 1<<33 - 1, 1<<33 + 1, math.MaxInt, math.MinInt + 1, -1, -3, 0} {
			checkMay(t, api.Window{High: high, Bits: row}, false)
		}
	}
	checkMay(t, api.Window{High: 30, Bits: allBits}, false)
	checkMay(t, api.Window{High: 30, Bits: 1<<31 + 1}, false)
	checkMay(t, api.Window{High: 30, Bits: allBits >> 1}, true)
}

// P17.1: bits that are even, or below 1, may not be, whatever High is.
func TestNoBits(t *testing.T) {
	for _, high := range highs[1:] {
		for _, row := range below {
			checkMay(t, api.Window{High: high, Bits: row}, false)
		}
		for row := range 300 {
			if row%2 == 0 {
				checkMay(t, api.Window{High: high, Bits: row}, false)
			}
		}
		for k := range 32 {
			checkMay(t, api.Window{High: high, Bits: (allBits - k*k) &^ 1}, false)
		}
	}
}

// P17.1: numbers of a window's lower end: the last one that may come, and those that are too old.
func TestLowerEnd(t *testing.T) {
	for _, high := range []int{32, 33, 34, 40, 63, 64, 65, 99, 255, 256, 1 << 16, api.MaxSeq - 1, api.MaxSeq} {
		for _, row := range []int{1, 3, allBits >> 1, allBits>>1 - 2, 0x55555555} {
			w := api.Window{High: high, Bits: row}
			for by := 32; by <= min(high, 140); by++ {
				checkNoAdd(t, w, high-by, api.ErrWindowOld)
			}
			checkNoAdd(t, w, 0, api.ErrWindowOld)
			checkAdd(t, w, high-31, api.Window{High: high, Bits: row + 1<<31})
		}
		for _, row := range []int{1<<31 + 1, allBits, allBits - 2} {
			checkNoAdd(t, api.Window{High: high, Bits: row}, high-31, api.ErrWindowOld)
			checkNoAdd(t, api.Window{High: high, Bits: row}, high-32, api.ErrWindowOld)
			if high > 32 {
				checkNoAdd(t, api.Window{High: high, Bits: row}, high-33, api.ErrWindowOld)
			}
		}
	}
	// A window that reaches beyond 0 has nothing that is too old.
	for high := range 32 {
		for seq := range high {
			checkAdd(t, api.Window{High: high, Bits: 1}, seq, api.Window{High: high, Bits: 1 + 1<<(high-seq)})
		}
		checkNoAdd(t, api.Window{High: high, Bits: 1}, -1, api.ErrWindowForm)
	}
	checkNoAdd(t, api.Window{High: 32, Bits: 1}, 0, api.ErrWindowOld)
}

// P17.1: numbers above High: older bits move on, and those beyond the window are gone.
func TestUpperEnd(t *testing.T) {
	for _, high := range []int{31, 32, 40, 99, 1 << 16, api.MaxSeq - 70} {
		for by := 1; by <= 70; by++ {
			one := api.Window{High: high + by, Bits: 1}
			if by < 32 {
				one.Bits = 1 + 1<<by
			}
			checkAdd(t, api.Window{High: high, Bits: 1}, high+by, one)
			checkAdd(t, api.Window{High: high, Bits: 1 + 1<<31}, high+by, one)
			last := api.Window{High: high + by, Bits: 1}
			for at := by; at < 32; at++ {
				last.Bits += 1 << at
			}
			checkAdd(t, api.Window{High: high, Bits: allBits}, high+by, last)
		}
		checkAdd(t, api.Window{High: high, Bits: allBits}, high+1, api.Window{High: high + 1, Bits: allBits})
		checkAdd(t, api.Window{High: high, Bits: 5}, high+1, api.Window{High: high + 1, Bits: 11})
		checkAdd(t, api.Window{High: high, Bits: 7}, high+29, api.Window{High: high + 29, Bits: 7<<29 + 1})
		checkAdd(t, api.Window{High: high, Bits: 7}, high+30, api.Window{High: high + 30, Bits: 3<<30 + 1})
		checkAdd(t, api.Window{High: high, Bits: allBits}, high+31, api.Window{High: high + 31, Bits: 1<<31 + 1})
		checkAdd(t, api.Window{High: high, Bits: allBits}, high+32, api.Window{High: high + 32, Bits: 1})
		checkAdd(t, api.Window{High: high, Bits: allBits}, high+33, api.Window{High: high + 33, Bits: 1})
		checkAdd(t, api.Window{High: high, Bits: allBits}, api.MaxSeq, api.Window{High: api.MaxSeq, Bits: 1})
	}
	checkAdd(t, api.Window{Bits: 1}, api.MaxSeq, api.Window{High: api.MaxSeq, Bits: 1})
	checkAdd(t, api.Window{High: api.MaxSeq - 1, Bits: allBits}, api.MaxSeq, api.Window{High: api.MaxSeq, Bits: allBits})
	checkNoAdd(t, api.Window{High: api.MaxSeq, Bits: allBits}, api.MaxSeq, api.ErrWindowOld)
	checkNoAdd(t, api.Window{High: api.MaxSeq, Bits: allBits}, api.MaxSeq+1, api.ErrWindowForm)
}

// P17.1: each bit that is set, and its neighbours that are not; and each that is not, and its neighbours that are.
func TestNeighbours(t *testing.T) {
	for _, high := range []int{31, 40, 1 << 16, api.MaxSeq} {
		checkNoAdd(t, api.Window{High: high, Bits: 1}, high, api.ErrWindowOld)
		for at := 1; at < 32; at++ {
			w := api.Window{High: high, Bits: 1 + 1<<at}
			checkNoAdd(t, w, high-at, api.ErrWindowOld)
			for other := 1; other < 32; other++ {
				if other != at {
					checkAdd(t, w, high-other, api.Window{High: high, Bits: w.Bits + 1<<other})
				}
			}
			w.Bits = allBits - 1<<at
			checkAdd(t, w, high-at, api.Window{High: high, Bits: allBits})
			for other := range 32 {
				if other != at {
					checkNoAdd(t, w, high-other, api.ErrWindowOld)
				}
			}
		}
	}
}

// P17.1: numbers that may not come, of windows of each kind.
func TestNoSeqs(t *testing.T) {
	for _, high := range highs[1:] {
		for _, row := range []int{1, 1 + 1<<min(high, 31), 1<<(min(high, 31)+1) - 1} {
			for _, seq := range noSeqs {
				checkNoAdd(t, api.Window{High: high, Bits: row}, seq, api.ErrWindowForm)
			}
		}
	}
}

// P17.1 with R2 and R6: what may not be is told ahead of a number that is too old, or came.
func TestSeveral(t *testing.T) {
	for _, w := range []api.Window{
		{},
		{High: -1, Bits: 1},
		{High: -2},
		{High: 40},
		{High: 40, Bits: 2},
		{High: 40, Bits: -1},
		{High: 40, Bits: allBits - 1},
		{High: 40, Bits: allBits + 2},
		{High: 9, Bits: 1<<10 + 1},
		{High: api.MaxSeq, Bits: 1<<32 + 1},
		{High: api.MaxSeq + 1, Bits: 1},
		{High: api.MaxSeq + 1, Bits: allBits},
		{High: api.MaxNum, Bits: 1},
		{High: math.MaxInt, Bits: math.MaxInt},
		{High: math.MinInt, Bits: 1},
		{High: math.MinInt, Bits: math.MinInt},
	} {
		checkMay(t, w, false)
		for _, seq := range near(w.High) {
			checkNoAdd(t, w, seq, api.ErrWindowForm)
		}
	}
	for _, w := range []api.Window{{High: 40, Bits: allBits}, {High: 64, Bits: 1}, {High: api.MaxSeq, Bits: allBits}, {Bits: 1}} {
		for _, seq := range noSeqs {
			checkNoAdd(t, w, seq, api.ErrWindowForm)
		}
	}
}

// P17.1: windows and numbers at and about all edges, held against the plain readers.
func TestEdges(t *testing.T) {
	for _, high := range slices.Concat(highs, noHighs) {
		for _, row := range shapes(high) {
			for _, seq := range near(high) {
				checkRead(t, api.Window{High: high, Bits: row}, seq)
			}
		}
	}
}

// P17.1: every window of a small High, and every number about it.
func TestEverySmall(t *testing.T) {
	for high := -3; high < 9; high++ {
		for row := -2; row < 1<<10; row++ {
			for seq := -2; seq < 46; seq++ {
				checkRead(t, api.Window{High: high, Bits: row}, seq)
			}
		}
	}
}

// P17.1: windows of any bits, held against the plain readers.
func TestRandom(t *testing.T) {
	r := rand.New(rand.NewSource(17))
	for range 300000 {
		w := api.Window{High: r.Intn(70) - 1, Bits: r.Intn(1<<32)>>r.Intn(33) | 1}
		switch r.Intn(12) {
		case 0:
			w.High = r.Intn(api.MaxSeq + 1)
		case 1:
			w.High = noHighs[r.Intn(len(noHighs))]
		case 2:
			w.Bits--
		case 3:
			w.Bits += r.Intn(1<<30) << 31
		case 4:
			w.Bits &= 1<<max(w.High+1, 0) - 1
		}
		seq := w.High + r.Intn(140) - 70
		if r.Intn(30) == 0 {
			seq = noSeqs[r.Intn(len(noSeqs))]
		}
		checkRead(t, w, seq)
	}
}

// reader keeps each number that came, and the window behind them.
type reader struct {
	came map[int]int
	w    api.Window
	high int
}

// checkNext tells that one number more is taken once, and only if it is not too old (T5).
func (x *reader) checkNext(t *testing.T, seq int) {
	t.Helper()
	got, e := Add(x.w, seq)
	switch {
	case seq < 0 || seq > 1048575:
		if got != (api.Window{}) || e != 1700 {
			t.Fatalf("Add(%v, %d): %v, %d, want ErrWindowForm", x.w, seq, got, e)
		}
	case x.came[seq] == 1 || seq+32 <= x.high:
		if got != (api.Window{}) || e != 1701 {
			t.Fatalf("Add(%v, %d): %v, %d, want ErrWindowOld", x.w, seq, got, e)
		}
	default:
		x.came[seq], x.high = 1, max(x.high, seq)
		want := api.Window{High: x.high}
		for at := range 32 {
			want.Bits += x.came[x.high-at] << at
		}
		if got != want || e != 0 || !May(got) {
			t.Fatalf("Add(%v, %d): %v, %d, want %v", x.w, seq, got, e, want)
		}
		x.w = got
	}
}

// checkRow tells that a row of numbers is taken as a reader takes it that keeps each of them.
func checkRow(t *testing.T, row []int) {
	t.Helper()
	x := reader{map[int]int{}, api.Window{High: -1}, -1}
	for _, seq := range row {
		x.checkNext(t, seq)
	}
}

// upTo are n numbers, from first on, with a step between them.
func upTo(first, n, step int) []int {
	row := []int{}
	for k := range n {
		row = append(row, first+k*step)
	}
	return row
}

// twice is a row of which each number comes again, at once.
func twice(row []int) []int {
	out := []int{}
	for _, seq := range row {
		out = append(out, seq, seq)
	}
	return out
}

// P17.1 with T5: rows of numbers in order, backwards and twice, with gaps of one up to beyond WindowSize.
func TestRows(t *testing.T) {
	for _, first := range []int{0, 1, 31, 32, 33, 1000, api.MaxSeq - 3000, api.MaxSeq - 40} {
		for _, step := range append(upTo(1, 36, 1), 48, 63, 64, 65, 70) {
			row := upTo(first, 40, step)
			back := slices.Clone(row)
			slices.Reverse(back)
			checkRow(t, row)
			checkRow(t, back)
			checkRow(t, twice(row))
			checkRow(t, twice(back))
			checkRow(t, slices.Concat(row, row))
			checkRow(t, slices.Concat(row, back))
			checkRow(t, slices.Concat(back, row))
			checkRow(t, slices.Concat(row, upTo(first+1, 70*step, 1)))
			checkRow(t, slices.Concat(row, upTo(first+40*step, 90*step, -1)))
		}
	}
}

// P17.1 with T5: rows of numbers at random, some of them far ahead, and some that may not come.
func TestRandomRows(t *testing.T) {
	r := rand.New(rand.NewSource(5))
	for range 1000 {
		about, wide := r.Intn(api.MaxSeq+1), 1+r.Intn(80)
		if r.Intn(3) == 0 {
			about = 0
		}
		row := []int{}
		for range 200 {
			switch r.Intn(40) {
			case 0:
				about += r.Intn(90)
			case 1:
				about = max(0, about-r.Intn(40))
			case 2:
				row = append(row, noSeqs[r.Intn(len(noSeqs))])
			}
			row = append(row, about+r.Intn(2*wide)-wide)
			if r.Intn(3) == 0 {
				about++
			}
		}
		checkRow(t, row)
	}
}

// P17.1 with T5: each order of a few numbers, of gaps within a window and beyond it, each of them four times.
func TestEveryOrder(t *testing.T) {
	numbers := []int{3, 4, 34, 35, 36, 67}
	var goOn func(row []int)
	goOn = func(row []int) {
		if len(row) == len(numbers) {
			checkRow(t, slices.Concat(row, row, twice(row)))
			return
		}
		for _, seq := range numbers {
			if !slices.Contains(row, seq) {
				goOn(append(slices.Clone(row), seq))
			}
		}
	}
	goOn(nil)
}

// P17.1: a row of calls, told one by one.
func TestRowTold(t *testing.T) {
	w := api.Window{High: -1}
	for _, s := range []struct {
		seq  int
		want api.Window
	}{
		{3, api.Window{High: 3, Bits: 0b1}},
		{1, api.Window{High: 3, Bits: 0b101}},
		{0, api.Window{High: 3, Bits: 0b1101}},
		{4, api.Window{High: 4, Bits: 0b11011}},
		{2, api.Window{High: 4, Bits: 0b11111}},
		{7, api.Window{High: 7, Bits: 0b11111001}},
		{33, api.Window{High: 33, Bits: 0b11100100000000000000000000000001}},
		{5, api.Window{High: 33, Bits: 0b11110100000000000000000000000001}},
		{34, api.Window{High: 34, Bits: 0b11101000000000000000000000000011}},
		{66, api.Window{High: 66, Bits: 0b1}},
		{35, api.Window{High: 66, Bits: 0b10000000000000000000000000000001}},
		{98, api.Window{High: 98, Bits: 0b1}},
	} {
		checkAdd(t, w, s.seq, s.want)
		w = s.want
		if s.seq == 7 {
			checkNoAdd(t, w, 4, api.ErrWindowOld)
			checkNoAdd(t, w, 8-api.WindowSize, api.ErrWindowForm)
		}
	}
	checkNoAdd(t, w, 66, api.ErrWindowOld)
	checkNoAdd(t, w, 34, api.ErrWindowOld)
}

// P17.1 with R5: several goroutines at one time.
func TestAtOneTime(t *testing.T) {
	var all sync.WaitGroup
	for at := range 32 {
		all.Go(func() {
			for seq := 100; seq < 1000; seq++ {
				w := api.Window{High: seq, Bits: allBits - 1<<at}
				checkMay(t, w, at > 0)
				if at > 0 {
					checkAdd(t, w, seq-at, api.Window{High: seq, Bits: allBits})
				}
			}
		})
	}
	all.Wait()
}
