package meter

import (
	"math"
	"math/rand"
	"slices"
	"sync"
	"testing"

	"bastion/api"
)

// noNums are not from 0 to MaxNum; the last ones of each row, cut to fewer bits, would be.
var noNums = []int{-1, -2, -64, -256, -api.MaxNum, -api.MaxNum - 1, math.MinInt32, -1 << 32, -1<<32 + 1, -1<<32 + 7, math.MinInt + 1, math.MinInt + 7, math.MinInt,
	api.MaxNum + 1, api.MaxNum + 2, math.MaxInt32, 1 << 31, 1<<31 + 7, 1 << 32, 1<<32 + 1, 1<<32 + 7, math.MaxInt - api.MaxNum, math.MaxInt - 1, math.MaxInt}

// noDatas are no numbers of bytes of a frame.
var noDatas = append([]int{api.MaxData + 1, api.MaxData + 2, 127, 128, 255, 256, 256 + 7, 65536, 65536 + 7, api.MaxNum - 1, api.MaxNum}, noNums...)

// edges are numbers at the edges that each of them has, within and beyond.
var edges = []int{math.MinInt, -1, 0, 1, 2, api.MaxNum - 1, api.MaxNum, api.MaxNum + 1, math.MaxInt}

// readMay tells which meters may be, by the chapter's words.
func readMay(m api.Meter) bool {
	for _, x := range []int{m.Start, m.Last, m.Bytes} {
		if x < 0 || x > 1073741823 {
			return false
		}
	}
	return !(m.Start > m.Last)
}

// readOver is Over by the chapter's words, of sums that numbers of 64 bits hold.
func readOver(m api.Meter, tick, idle, absolute int) (int, bool) {
	for _, x := range []int{tick, idle, absolute} {
		if x < 0 || x > 1073741823 {
			return 0, false
		}
	}
	if !readMay(m) {
		return 0, false
	}
	if tick > m.Start+absolute {
		return 2, true
	}
	if tick > m.Last+idle {
		return 1, true
	}
	return 0, false
}

// readDeliver is Deliver by the chapter's words, of sums too.
func readDeliver(m api.Meter, tick, bytes, used, quota int) (api.Meter, bool, api.Errno) {
	for _, x := range []int{tick, bytes, used, quota} {
		if x < 0 || x > 1073741823 {
			return api.Meter{}, false, 1900
		}
	}
	if !readMay(m) || tick < m.Last || bytes > 64 {
		return api.Meter{}, false, 1900
	}
	sum := m.Bytes + bytes
	if !(used < quota) || sum > 1073741823 {
		return api.Meter{}, false, 0
	}
	return api.Meter{Start: m.Start, Last: tick, Bytes: sum}, true, 0
}

// checkOver tells that a session is over for that reason, and tells it twice (R5).
func checkOver(t *testing.T, m api.Meter, tick, idle, absolute, want int) {
	t.Helper()
	for range 2 {
		if why, is := Over(m, tick, idle, absolute); why != want || !is {
			t.Errorf("Over(%v, %d, %d, %d): %d, %t, want %d", m, tick, idle, absolute, why, is, want)
		}
	}
}

// checkNoOver tells that a session is over for no reason, with nothing beside the false (R2).
func checkNoOver(t *testing.T, m api.Meter, tick, idle, absolute int) {
	t.Helper()
	if why, is := Over(m, tick, idle, absolute); why != 0 || is {
		t.Errorf("Over(%v, %d, %d, %d): %d, %t, want none", m, tick, idle, absolute, why, is)
	}
}

// checkDeliver tells what a meter is behind some bytes, and tells it twice (R5).
func checkDeliver(t *testing.T, m api.Meter, tick, bytes, used, quota int, want api.Meter) {
	t.Helper()
	for range 2 {
		if got, is, e := Deliver(m, tick, bytes, used, quota); got != want || !is || e != api.OK {
			t.Errorf("Deliver(%v, %d, %d, %d, %d): %v, %t, %d, want %v", m, tick, bytes, used, quota, got, is, e, want)
		}
	}
}

// checkNot tells that bytes are not delivered: with an error, or OK for a false without one,
// and nothing beside it (R2).
func checkNot(t *testing.T, m api.Meter, tick, bytes, used, quota int, want api.Errno) {
	t.Helper()
	if got, is, e := Deliver(m, tick, bytes, used, quota); got != (api.Meter{}) || is || e != want {
		t.Errorf("Deliver(%v, %d, %d, %d, %d): %v, %t, %d, want false, %d", m, tick, bytes, used, quota, got, is, e, want)
	}
}

// checkReadOver tells that Over answers what its plain reader does.
func checkReadOver(t *testing.T, m api.Meter, tick, idle, absolute int) {
	t.Helper()
	why, is := Over(m, tick, idle, absolute)
	if want, ok := readOver(m, tick, idle, absolute); why != want || is != ok {
		t.Fatalf("Over(%v, %d, %d, %d): %d, %t, want %d, %t", m, tick, idle, absolute, why, is, want, ok)
	}
}

// checkReadDeliver tells that Deliver answers what its plain reader does.
func checkReadDeliver(t *testing.T, m api.Meter, tick, bytes, used, quota int) {
	t.Helper()
	got, is, e := Deliver(m, tick, bytes, used, quota)
	if want, ok, f := readDeliver(m, tick, bytes, used, quota); got != want || is != ok || e != f {
		t.Fatalf("Deliver(%v, %d, %d, %d, %d): %v, %t, %d, want %v, %t, %d", m, tick, bytes, used, quota, got, is, e, want, ok, f)
	}
}

// noMeters are meters that may not be: each number in turn, then a Start above Last.
func noMeters() []api.Meter {
	var row []api.Meter
	for _, x := range noNums {
		row = append(row, api.Meter{Start: x, Last: 7}, api.Meter{Start: 7, Last: x}, api.Meter{Last: 7, Bytes: x})
		row = append(row, api.Meter{Start: x, Last: x}, api.Meter{Start: x, Last: api.MaxNum}, api.Meter{Start: x, Last: math.MaxInt}, api.Meter{Start: x, Last: x, Bytes: x})
	}
	for _, last := range []int{0, 1, 6, 255, api.MaxTick, api.MaxNum - 1} {
		row = append(row, api.Meter{Start: last + 1, Last: last}, api.Meter{Start: api.MaxNum, Last: last})
	}
	return row
}

// P19.1: tick less Start just below, at and above absolute, and tick less Last the same of
// idle, both at once; where both are passed, the absolute one counts.
func TestOverLimits(t *testing.T) {
	for _, m := range []api.Meter{{}, {Last: 30}, {Start: 5, Last: 30}, {Start: 30, Last: 30}, {Start: 5, Last: 30, Bytes: 9}, {Start: 5, Last: 30, Bytes: api.MaxNum}} {
		for _, limit := range []int{0, 1, 2, 30, 255, 256, 65535, 65536, api.MaxTick} {
			for by := -1; by <= 1; by++ {
				if limit+by < 0 {
					continue
				}
				tick := m.Start + limit + by
				switch {
				case by == 1:
					checkOver(t, m, tick, api.MaxNum, limit, api.WhyAbsolute)
					checkOver(t, m, tick, 0, limit, api.WhyAbsolute)
				default:
					checkNoOver(t, m, tick, api.MaxNum, limit)
				}
				tick = m.Last + limit + by
				switch {
				case by == 1:
					checkOver(t, m, tick, limit, api.MaxNum, api.WhyIdle)
					checkOver(t, m, tick, limit, tick-m.Start, api.WhyIdle)
					checkOver(t, m, tick, limit, tick-m.Start-1, api.WhyAbsolute)
				default:
					checkNoOver(t, m, tick, limit, api.MaxNum)
					checkNoOver(t, m, tick, limit, tick-m.Start)
				}
			}
		}
	}
}

// P19.1: each of the two limits passed or not, told one by one.
func TestOverTold(t *testing.T) {
	m := api.Meter{Start: 100, Last: 150, Bytes: 7}
	checkNoOver(t, m, 160, 10, 60)
	checkNoOver(t, m, 160, 11, 61)
	checkOver(t, m, 160, 9, 60, api.WhyIdle)
	checkOver(t, m, 160, 10, 59, api.WhyAbsolute)
	checkOver(t, m, 160, 9, 59, api.WhyAbsolute)
	checkOver(t, m, 161, 10, 60, api.WhyAbsolute)
	checkOver(t, m, 161, 10, 61, api.WhyIdle)
	checkNoOver(t, m, 161, 11, 61)
	checkNoOver(t, m, 150, 0, 50)
	checkOver(t, m, 151, 0, 51, api.WhyIdle)
	checkOver(t, m, 150, 0, 49, api.WhyAbsolute)
	checkNoOver(t, m, 100, 0, 0)
	checkOver(t, m, 101, 0, 0, api.WhyAbsolute)
}

// P19.1: a tick below Start, or below Last, passes no limit that it isn't behind.
func TestOverEarly(t *testing.T) {
	for _, m := range []api.Meter{{Start: 40, Last: 40}, {Start: 40, Last: 90}, {Start: 40, Last: api.MaxNum}, {Start: api.MaxNum, Last: api.MaxNum}} {
		for _, tick := range []int{0, 1, 39, 40} {
			for _, limit := range []int{0, 1, 39, 40, api.MaxNum} {
				checkNoOver(t, m, tick, limit, 0)
				checkNoOver(t, m, tick, 0, limit)
			}
		}
	}
	for tick := 41; tick <= 90; tick++ {
		checkOver(t, api.Meter{Start: 40, Last: 90}, tick, 0, tick-41, api.WhyAbsolute)
		checkNoOver(t, api.Meter{Start: 40, Last: 90}, tick, 0, tick-40)
		checkNoOver(t, api.Meter{Start: 40, Last: 90}, tick, 0, api.MaxNum)
	}
}

// P19.1: the greatest numbers that may be.
func TestOverMost(t *testing.T) {
	const most = api.MaxNum
	checkNoOver(t, api.Meter{}, most, most, most)
	checkOver(t, api.Meter{}, most, most, most-1, api.WhyAbsolute)
	checkOver(t, api.Meter{}, most, most-1, most, api.WhyIdle)
	checkOver(t, api.Meter{}, most, most-1, most-1, api.WhyAbsolute)
	checkOver(t, api.Meter{}, most, 0, 0, api.WhyAbsolute)
	checkNoOver(t, api.Meter{Start: most, Last: most, Bytes: most}, most, 0, 0)
	checkNoOver(t, api.Meter{Start: most, Last: most, Bytes: most}, most, most, most)
	checkNoOver(t, api.Meter{Last: most}, most, 0, most)
	checkOver(t, api.Meter{Last: most}, most, 0, most-1, api.WhyAbsolute)
	checkNoOver(t, api.Meter{Start: 1, Last: 1}, most, most-1, most-1)
	checkOver(t, api.Meter{Start: 1, Last: 1}, most, most-2, most-1, api.WhyIdle)
	checkOver(t, api.Meter{Start: most - 1, Last: most - 1}, most, 0, 1, api.WhyIdle)
	checkOver(t, api.Meter{Start: most - 1, Last: most - 1}, most, 0, 0, api.WhyAbsolute)
}

// P19.1: numbers that are not from 0 to MaxNum, each in turn and several at once.
func TestOverNoNums(t *testing.T) {
	for _, m := range []api.Meter{{}, {Last: 7}, {Start: 7, Last: 7, Bytes: 7}, {Start: 7, Last: api.MaxNum}} {
		for _, x := range noNums {
			for _, y := range []int{0, 1, 50, api.MaxNum} {
				checkNoOver(t, m, x, y, 0)
				checkNoOver(t, m, x, 0, y)
				checkNoOver(t, m, y, x, 0)
				checkNoOver(t, m, y, 0, x)
			}
			for _, y := range noNums {
				checkNoOver(t, m, x, y, 0)
				checkNoOver(t, m, x, 0, y)
				checkNoOver(t, m, 99, x, y)
				checkNoOver(t, m, x, y, x)
			}
		}
	}
}

// P19.1: a meter that may not be is over for no reason, whatever else is asked.
func TestOverNoMeters(t *testing.T) {
	asked := slices.Concat([]int{0, 1, 7, 8, 99, api.MaxNum - 1, api.MaxNum}, noNums)
	for _, m := range noMeters() {
		for _, tick := range asked {
			checkNoOver(t, m, tick, 0, 0)
			checkNoOver(t, m, tick, 0, api.MaxNum)
			checkNoOver(t, m, tick, api.MaxNum, 0)
			checkNoOver(t, m, tick, tick, tick)
		}
	}
}

// P19.1 and P19.2: Start one below Last, Last itself, and one above.
func TestStart(t *testing.T) {
	for _, last := range []int{1, 2, 40, 255, 256, api.MaxTick, api.MaxTick + 1, api.MaxNum - 1} {
		for _, start := range []int{0, last - 1, last} {
			m := api.Meter{Start: start, Last: last, Bytes: 3}
			checkDeliver(t, m, last, 1, 0, 1, api.Meter{Start: start, Last: last, Bytes: 4})
			checkDeliver(t, m, last+1, 1, 0, 1, api.Meter{Start: start, Last: last + 1, Bytes: 4})
			checkOver(t, m, last+1, 0, api.MaxNum, api.WhyIdle)
			checkOver(t, m, last+1, 0, 0, api.WhyAbsolute)
		}
		for _, start := range []int{last + 1, min(last+2, api.MaxNum), api.MaxNum} {
			m := api.Meter{Start: start, Last: last, Bytes: 3}
			checkNot(t, m, last, 1, 0, 1, api.ErrMeterForm)
			checkNot(t, m, api.MaxNum, 1, 0, 1, api.ErrMeterForm)
			checkNoOver(t, m, api.MaxNum, 0, api.MaxNum)
			checkNoOver(t, m, api.MaxNum, 0, 0)
		}
	}
}

// P19.2: ticks just below Last, at it and above, and at their limits.
func TestDeliverTick(t *testing.T) {
	for _, m := range []api.Meter{{}, {Last: 40, Bytes: 5}, {Start: 10, Last: 40}, {Start: 40, Last: 40}, {Start: 40, Last: api.MaxNum}, {Start: api.MaxNum, Last: api.MaxNum}} {
		for _, tick := range []int{0, 1, 10, 39, m.Last - 1} {
			if tick < m.Last {
				checkNot(t, m, tick, 8, 0, 1, api.ErrMeterForm)
			}
		}
		for _, tick := range []int{m.Last, m.Last + 1, m.Last + 2, api.MaxTick, api.MaxTick + 1, api.MaxNum - 1, api.MaxNum} {
			if tick >= m.Last && tick <= api.MaxNum {
				checkDeliver(t, m, tick, 8, 0, 1, api.Meter{Start: m.Start, Last: tick, Bytes: m.Bytes + 8})
			}
		}
		for _, tick := range noNums {
			checkNot(t, m, tick, 8, 0, 1, api.ErrMeterForm)
		}
	}
}

// P19.2: each number of bytes that a frame may have, and those beyond.
func TestDeliverBytes(t *testing.T) {
	for _, m := range []api.Meter{{}, {Start: 3, Last: 9, Bytes: 1}, {Start: 9, Last: 9, Bytes: api.MaxQuota}, {Last: 9, Bytes: api.MaxNum - api.MaxData}} {
		for bytes := range api.MaxData + 1 {
			checkDeliver(t, m, 9, bytes, 0, 1, api.Meter{Start: m.Start, Last: 9, Bytes: m.Bytes + bytes})
		}
		for _, bytes := range noDatas {
			checkNot(t, m, 9, bytes, 0, 1, api.ErrMeterForm)
			checkNot(t, m, 9, bytes, 0, api.MaxNum, api.ErrMeterForm)
		}
	}
}

// P19.2: used just below the quota, at it and above, and a quota of which nothing is left
// at once; how many bytes come counts nothing there.
func TestDeliverQuota(t *testing.T) {
	m := api.Meter{Start: 2, Last: 5, Bytes: 77}
	for _, bytes := range []int{0, 1, 63, api.MaxData} {
		for _, quota := range []int{1, 2, 76, 77, 78, 255, 256, api.MaxQuota, api.MaxQuota + 1, api.MaxNum} {
			for _, used := range []int{0, quota / 2, quota - 1} {
				checkDeliver(t, m, 5, bytes, used, quota, api.Meter{Start: 2, Last: 5, Bytes: 77 + bytes})
			}
			for _, used := range []int{quota, quota + 1, quota + 64, api.MaxNum - 1, api.MaxNum} {
				if used >= quota && used <= api.MaxNum {
					checkNot(t, m, 5, bytes, used, quota, api.OK)
				}
			}
		}
		for _, used := range []int{0, 1, 2, 64, api.MaxNum - 1, api.MaxNum} {
			checkNot(t, m, 5, bytes, used, 0, api.OK)
		}
		for _, x := range noNums {
			for _, y := range []int{0, 1, 2, api.MaxNum} {
				checkNot(t, m, 5, bytes, x, y, api.ErrMeterForm)
				checkNot(t, m, 5, bytes, y, x, api.ErrMeterForm)
			}
		}
	}
}

// P19.2: Bytes and bytes that make MaxNum, one less, and one more.
func TestDeliverMost(t *testing.T) {
	for bytes := range api.MaxData + 1 {
		for by := -3; by <= 3; by++ {
			m := api.Meter{Start: 1, Last: 2, Bytes: api.MaxNum - bytes + by}
			switch {
			case by <= 0:
				checkDeliver(t, m, 3, bytes, 0, 1, api.Meter{Start: 1, Last: 3, Bytes: api.MaxNum + by})
				checkNot(t, m, 3, bytes, 1, 1, api.OK)
			case m.Bytes <= api.MaxNum:
				checkNot(t, m, 3, bytes, 0, 1, api.OK)
				checkNot(t, m, 3, bytes, 0, api.MaxNum, api.OK)
			default:
				checkNot(t, m, 3, bytes, 0, 1, api.ErrMeterForm)
			}
		}
	}
	full := api.Meter{Start: api.MaxNum, Last: api.MaxNum, Bytes: api.MaxNum}
	checkDeliver(t, full, api.MaxNum, 0, api.MaxNum-1, api.MaxNum, full)
	checkNot(t, full, api.MaxNum, 1, api.MaxNum-1, api.MaxNum, api.OK)
	checkNot(t, full, api.MaxNum, 0, api.MaxNum, api.MaxNum, api.OK)
}

// P19.2: what is delivered hangs on no limit of time, and what is over on no quota.
func TestApart(t *testing.T) {
	m := api.Meter{Start: 0, Last: 0, Bytes: api.MaxNum - 1}
	checkDeliver(t, m, api.MaxNum, 1, 0, 1, api.Meter{Last: api.MaxNum, Bytes: api.MaxNum})
	checkNoOver(t, m, 9, 9, 9)
	checkOver(t, m, 10, 9, 10, api.WhyIdle)
	checkNot(t, m, 10, 2, 0, 1, api.OK)
}

// P19.2 with R2 and R6: what may not be is told ahead of a quota that is used and of bytes
// that are too many, and several such at once are one error.
func TestSeveral(t *testing.T) {
	for _, m := range append(noMeters(), api.Meter{Start: 3, Last: 8, Bytes: 2}, api.Meter{Last: 8, Bytes: api.MaxNum}) {
		for i, x := range noNums {
			checkNot(t, m, x, 1, 0, 1, api.ErrMeterForm)
			checkNot(t, m, x, 1, 1, 1, api.ErrMeterForm)
			checkNot(t, m, 7, noDatas[i], 1, 1, api.ErrMeterForm)
			checkNot(t, m, 8, x, 9, 8, api.ErrMeterForm)
			checkNot(t, m, x, x, x, x, api.ErrMeterForm)
			checkNot(t, m, 8, 1, x, 0, api.ErrMeterForm)
			checkNot(t, m, 8, 1, api.MaxNum, x, api.ErrMeterForm)
		}
		checkNot(t, m, 7, 1, 1, 1, api.ErrMeterForm)
		checkNot(t, m, 7, 1, 0, 0, api.ErrMeterForm)
		checkNot(t, m, 8, 65, 1, 1, api.ErrMeterForm)
		checkNot(t, m, 7, 65, 2, 1, api.ErrMeterForm)
	}
	for _, m := range noMeters() {
		for _, tick := range []int{0, 7, 8, 9, api.MaxNum} {
			checkNot(t, m, tick, 1, 0, 1, api.ErrMeterForm)
			checkNot(t, m, tick, 0, 0, api.MaxNum, api.ErrMeterForm)
			checkNot(t, m, tick, 64, 1, 1, api.ErrMeterForm)
		}
	}
	checkNot(t, api.Meter{Last: 8, Bytes: api.MaxNum}, 8, 1, 1, 1, api.OK)
}

// P19.1: each number at each edge, all six at once, held against the plain reader.
func TestOverEdges(t *testing.T) {
	for _, start := range edges {
		for _, last := range edges {
			for _, bytes := range edges {
				m := api.Meter{Start: start, Last: last, Bytes: bytes}
				for _, tick := range edges {
					for _, idle := range edges {
						for _, absolute := range edges {
							checkReadOver(t, m, tick, idle, absolute)
						}
					}
				}
			}
		}
	}
}

// P19.2: each number at each edge, all seven at once, held against the plain reader.
func TestDeliverEdges(t *testing.T) {
	datas := []int{math.MinInt, -1, 0, 1, 63, 64, 65, api.MaxNum, api.MaxNum + 1, math.MaxInt}
	for _, start := range edges {
		for _, last := range edges {
			for _, bytes := range append([]int{api.MaxNum - 64, api.MaxNum - 63}, edges...) {
				m := api.Meter{Start: start, Last: last, Bytes: bytes}
				for _, tick := range edges {
					for _, more := range datas {
						for _, used := range edges {
							checkReadDeliver(t, m, tick, more, used, 0)
							checkReadDeliver(t, m, tick, more, used, 1)
							checkReadDeliver(t, m, tick, more, used, api.MaxNum)
						}
						checkReadDeliver(t, m, tick, more, 0, -1)
						checkReadDeliver(t, m, tick, more, 0, api.MaxNum+1)
					}
				}
			}
		}
	}
}

// P19.1: every call of small numbers, held against the plain reader.
func TestOverEverySmall(t *testing.T) {
	for start := -1; start < 6; start++ {
		for last := -1; last < 6; last++ {
			for tick := -1; tick < 12; tick++ {
				for idle := -1; idle < 8; idle++ {
					for absolute := -1; absolute < 9; absolute++ {
						checkReadOver(t, api.Meter{Start: start, Last: last, Bytes: 3}, tick, idle, absolute)
					}
				}
			}
		}
	}
}

// P19.2: every call of small numbers, held against the plain reader.
func TestDeliverEverySmall(t *testing.T) {
	for start := -1; start < 4; start++ {
		for last := -1; last < 4; last++ {
			for tick := -1; tick < 6; tick++ {
				for bytes := -1; bytes < 4; bytes++ {
					for used := -1; used < 4; used++ {
						for quota := -1; quota < 4; quota++ {
							checkReadDeliver(t, api.Meter{Start: start, Last: last, Bytes: 2}, tick, bytes, used, quota)
							checkReadDeliver(t, api.Meter{Start: start, Last: last, Bytes: api.MaxNum - 2}, tick, bytes, used, quota)
						}
					}
				}
			}
		}
	}
}

// P19.1 and P19.2: calls at random, held against the plain readers.
func TestRandom(t *testing.T) {
	r := rand.New(rand.NewSource(19))
	pick := func() int {
		switch r.Intn(30) {
		case 0:
			return noNums[r.Intn(len(noNums))]
		case 1:
			return api.MaxNum - r.Intn(90)
		case 2:
			return r.Intn(api.MaxNum + 1)
		}
		return r.Intn(70)
	}
	for range 400000 {
		m := api.Meter{Start: pick(), Last: pick(), Bytes: pick()}
		if r.Intn(4) > 0 {
			m.Start, m.Last = min(m.Start, m.Last), max(m.Start, m.Last)
		}
		tick := pick()
		if r.Intn(4) > 0 {
			tick = max(tick, m.Last)
		}
		checkReadOver(t, m, tick, pick(), pick())
		checkReadDeliver(t, m, tick, pick(), pick(), pick())
	}
}

// P19.1 and P19.2: a row of calls, told one by one.
func TestRowTold(t *testing.T) {
	m, used := api.Meter{Start: 20, Last: 20}, 0
	for _, s := range []struct {
		tick, bytes int
		want        api.Meter
		why         int
		over        bool
	}{
		{20, 10, api.Meter{Start: 20, Last: 20, Bytes: 10}, 0, false},
		{25, 64, api.Meter{Start: 20, Last: 25, Bytes: 74}, 0, false},
		{25, 0, api.Meter{Start: 20, Last: 25, Bytes: 74}, 0, false},
		{30, 25, api.Meter{Start: 20, Last: 30, Bytes: 99}, 0, false},
		{36, 0, api.Meter{Start: 20, Last: 36, Bytes: 99}, api.WhyIdle, true},
		{41, 64, api.Meter{Start: 20, Last: 41, Bytes: 163}, api.WhyAbsolute, true},
	} {
		// Of this session: 5 ticks idle, 20 in all, and 100 bytes.
		if s.over {
			checkOver(t, m, s.tick, 5, 20, s.why)
		} else {
			checkNoOver(t, m, s.tick, 5, 20)
		}
		checkDeliver(t, m, s.tick, s.bytes, used, 100, s.want)
		m, used = s.want, used+s.bytes
	}
	checkNot(t, m, 41, 0, used, 100, api.OK)
	checkNot(t, m, 40, 0, used, 100, api.ErrMeterForm)
	checkDeliver(t, m, 41, 0, used, 164, m)
}

// frame is one that was delivered.
type frame struct {
	tick, bytes int
}

// reader keeps each frame that a session got, and the meter behind them.
type reader struct {
	start, quota int
	got          []frame
	m            api.Meter
}

// sum is how many bytes were delivered.
func (x *reader) sum() int {
	n := 0
	for _, f := range x.got {
		n += f.bytes
	}
	return n
}

// last is when a frame was delivered at last, or the session began.
func (x *reader) last() int {
	if len(x.got) == 0 {
		return x.start
	}
	return x.got[len(x.got)-1].tick
}

// checkOverAt tells that a session is over at a tick as its frames tell.
func (x *reader) checkOverAt(t *testing.T, tick, idle, absolute int) {
	t.Helper()
	want, over := 0, false
	if tick >= x.last()+idle+1 {
		want, over = 1, true
	}
	if tick >= x.start+absolute+1 {
		want, over = 2, true
	}
	if why, is := Over(x.m, tick, idle, absolute); why != want || is != over {
		t.Fatalf("Over(%v, %d, %d, %d): %d, %t, want %d, %t", x.m, tick, idle, absolute, why, is, want, over)
	}
}

// checkNext tells that a frame more is delivered as those ahead of it tell.
func (x *reader) checkNext(t *testing.T, tick, bytes int) {
	t.Helper()
	used := x.sum()
	got, is, e := Deliver(x.m, tick, bytes, used, x.quota)
	switch {
	case tick < x.last() || bytes > 64:
		if got != (api.Meter{}) || is || e != 1900 {
			t.Fatalf("Deliver(%v, %d, %d, %d, %d): %v, %t, %d, want ErrMeterForm", x.m, tick, bytes, used, x.quota, got, is, e)
		}
		return
	case used >= x.quota:
		if got != (api.Meter{}) || is || e != 0 {
			t.Fatalf("Deliver(%v, %d, %d, %d, %d): %v, %t, %d, want false", x.m, tick, bytes, used, x.quota, got, is, e)
		}
		return
	}
	x.got = append(x.got, frame{tick, bytes})
	if want := (api.Meter{Start: x.start, Last: tick, Bytes: x.sum()}); got != want || !is || e != 0 {
		t.Fatalf("Deliver(%v, %d, %d, %d, %d): %v, %t, %d, want %v", x.m, tick, bytes, used, x.quota, got, is, e, want)
	}
	x.m = got
}

// P19.1 and P19.2 with T5: rows of frames at rising ticks, held against a reader that keeps
// each of them; of a quota there is never more than one frame more.
func TestRows(t *testing.T) {
	r := rand.New(rand.NewSource(5))
	for range 2000 {
		start, idle, absolute := r.Intn(api.MaxTick+1), r.Intn(20), r.Intn(200)
		x := reader{start: start, quota: r.Intn(1500), m: api.Meter{Start: start, Last: start}}
		tick := start
		for range 60 {
			tick += r.Intn(2) * r.Intn(12)
			x.checkOverAt(t, tick, idle, absolute)
			x.checkNext(t, tick-r.Intn(8)/7, r.Intn(68))
			x.checkOverAt(t, tick, idle, absolute)
		}
		if x.sum() >= x.quota+64 || x.m.Bytes != x.sum() {
			t.Fatalf("%v of a quota of %d, and %d bytes came", x.m, x.quota, x.sum())
		}
	}
}

// P19.1 and P19.2: with a frame at each step, no session is idle; the absolute limit ends it.
func TestSteadyRow(t *testing.T) {
	const idle, absolute = 3, 100
	m := api.Meter{Start: 7, Last: 7}
	for tick := 7; tick <= 7+absolute; tick += idle {
		checkNoOver(t, m, tick, idle, absolute)
		want := api.Meter{Start: 7, Last: tick, Bytes: m.Bytes + 64}
		checkDeliver(t, m, tick, 64, m.Bytes, api.MaxQuota, want)
		m = want
	}
	checkNoOver(t, m, 7+absolute, idle, absolute)
	checkOver(t, m, 8+absolute, idle, absolute, api.WhyAbsolute)
	checkNoOver(t, m, m.Last+idle, idle, absolute+idle)
	checkOver(t, m, m.Last+idle+1, idle, absolute+idle+1, api.WhyIdle)
}

// P19.1 and P19.2 with R5: several goroutines at one time.
func TestAtOneTime(t *testing.T) {
	var all sync.WaitGroup
	for bytes := range 16 {
		all.Go(func() {
			m := api.Meter{Start: bytes, Last: bytes}
			for tick := bytes; tick < 1000; tick++ {
				want := api.Meter{Start: bytes, Last: tick, Bytes: m.Bytes + bytes}
				checkDeliver(t, m, tick, bytes, bytes, bytes+1, want)
				checkNot(t, m, tick, bytes, bytes, bytes, api.OK)
				checkNoOver(t, want, tick+5, 5, tick+5-bytes)
				checkOver(t, want, tick+6, 5, tick+6-bytes, api.WhyIdle)
				m = want
			}
		})
	}
	all.Wait()
}
