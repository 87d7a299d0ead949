package lock

import (
	"math"
	"math/rand"
	"slices"
	"sync"
	"testing"

	"bastion/api"
)

// lastUntil is the greatest tick until which there may be a lock.
const lastUntil = 1114111

// noNumbers are below each limit's least number, or above each limit's greatest.
var noNumbers = []int{-1, -2, -9, -256, math.MinInt32, math.MinInt, lastUntil + 1, 1 << 24, api.MaxNum, math.MaxInt32, 1 << 32, 1<<32 + 1, math.MaxInt - api.MaxLife, math.MaxInt}

// noFails, noUntils, noTicks, noMosts and noLockouts are outside their limits.
var (
	noFails    = append([]int{api.MaxFails + 1, api.MaxFails + 2, 16, 256, 263, api.MaxTick}, noNumbers...)
	noUntils   = append([]int{lastUntil + 2, lastUntil + api.MaxLife}, noNumbers...)
	noTicks    = append([]int{api.MaxTick + 1, api.MaxTick + 2, api.MaxTick + api.MaxLife}, noNumbers...)
	noMosts    = append([]int{0, api.MaxFails + 1, api.MaxFails + 2, 16, 256, 257}, noNumbers...)
	noLockouts = append([]int{0, api.MaxLife + 1, api.MaxLife + 2, 2 * api.MaxLife, api.MaxTick}, noNumbers...)
)

// checkFail tells what a lock is behind a failure, and tells it twice.
func checkFail(t *testing.T, k api.Lock, tick, most, lockout int, want api.Lock) {
	t.Helper()
	for range 2 {
		if got, e := Fail(k, tick, most, lockout); got != want || e != api.OK {
			t.Errorf("Fail(%v, %d, %d, %d): %v, %d, want %v", k, tick, most, lockout, got, e, want)
		}
	}
}

// checkNoFail tells that a failure is refused, with nothing beside the error.
func checkNoFail(t *testing.T, k api.Lock, tick, most, lockout int) {
	t.Helper()
	if got, e := Fail(k, tick, most, lockout); got != (api.Lock{}) || e != api.ErrLockForm {
		t.Errorf("Fail(%v, %d, %d, %d): %v, %d, want ErrLockForm", k, tick, most, lockout, got, e)
	}
}

func checkOpen(t *testing.T, k api.Lock, tick int, want bool) {
	t.Helper()
	if got := Open(k, tick); got != want {
		t.Errorf("Open(%v, %d): %v", k, tick, got)
	}
}

// P13.1: a row of failures up to the most, the lock that comes of the last one, and the
// first failure behind it, for each number of failures that may be the most.
func TestRow(t *testing.T) {
	for most := 1; most <= api.MaxFails; most++ {
		k, until, tick := api.Lock{}, 0, 100
		for range 3 {
			for fails := 1; fails < most; fails++ {
				checkFail(t, k, tick, most, 50, api.Lock{Fails: fails, Until: until})
				k = api.Lock{Fails: fails, Until: until}
				checkOpen(t, k, tick, true)
				tick++
			}
			until = tick + 50
			checkFail(t, k, tick, most, 50, api.Lock{Fails: most, Until: until})
			k = api.Lock{Fails: most, Until: until}
			for ; tick < until; tick++ {
				checkOpen(t, k, tick, false)
				checkNoFail(t, k, tick, most, 50)
			}
			checkOpen(t, k, tick, true)
		}
	}
}

// P13.1: rows of failures, told one by one.
func TestRowTold(t *testing.T) {
	for _, r := range []struct {
		k                   api.Lock
		tick, most, lockout int
		want                api.Lock
	}{
		{api.Lock{}, 0, 3, 10, api.Lock{Fails: 1}},
		{api.Lock{Fails: 1}, 0, 3, 10, api.Lock{Fails: 2}},
		{api.Lock{Fails: 2}, 4, 3, 10, api.Lock{Fails: 3, Until: 14}},
		{api.Lock{Fails: 3, Until: 14}, 14, 3, 10, api.Lock{Fails: 1, Until: 14}},
		{api.Lock{Fails: 1, Until: 14}, 20, 3, 10, api.Lock{Fails: 2, Until: 14}},
		{api.Lock{Fails: 2, Until: 14}, 20, 3, 10, api.Lock{Fails: 3, Until: 30}},
		{api.Lock{}, 0, 1, 1, api.Lock{Fails: 1, Until: 1}},
		{api.Lock{Fails: 1, Until: 1}, 1, 1, 1, api.Lock{Fails: 1, Until: 2}},
		{api.Lock{Fails: 1, Until: 2}, 9, 1, 5, api.Lock{Fails: 1, Until: 14}},
		{api.Lock{Fails: 7}, 300, 8, 256, api.Lock{Fails: 8, Until: 556}},
		{api.Lock{Fails: 8, Until: 556}, 556, 8, 256, api.Lock{Fails: 1, Until: 556}},
		{api.Lock{Fails: 5, Until: 3}, 3, 4, 9, api.Lock{Fails: 1, Until: 3}},
		{api.Lock{Fails: 8, Until: 3}, 3, 1, 9, api.Lock{Fails: 1, Until: 12}},
	} {
		checkFail(t, r.k, r.tick, r.most, r.lockout, r.want)
	}
}

// P13.1: each number of failures against each most: only the most locks, and what is
// at or above it begins anew.
func TestFails(t *testing.T) {
	for most := 1; most <= api.MaxFails; most++ {
		for fails := range api.MaxFails + 1 {
			want := api.Lock{Fails: fails + 1, Until: 70}
			if fails >= most {
				want.Fails = 1
			}
			if want.Fails == most {
				want.Until = 92
			}
			checkFail(t, api.Lock{Fails: fails, Until: 70}, 80, most, 12, want)
		}
		for _, fails := range noFails {
			checkNoFail(t, api.Lock{Fails: fails, Until: 70}, 80, most, 12)
		}
	}
}

// P13.1: a lock whose time is over stays as long as it was, below its most and behind it.
func TestUntilStays(t *testing.T) {
	for _, until := range []int{0, 1, 255, 256, 65535, 65536, api.MaxTick - 1, api.MaxTick} {
		for _, tick := range []int{until, until + 1, api.MaxTick} {
			if tick > api.MaxTick {
				continue
			}
			for fails := range api.MaxFails - 1 {
				checkFail(t, api.Lock{Fails: fails, Until: until}, tick, api.MaxFails, 5, api.Lock{Fails: fails + 1, Until: until})
			}
			checkFail(t, api.Lock{Fails: 4, Until: until}, tick, 4, 5, api.Lock{Fails: 1, Until: until})
			checkFail(t, api.Lock{Fails: 5, Until: until}, tick, 4, 5, api.Lock{Fails: 1, Until: until})
			checkFail(t, api.Lock{Fails: 3, Until: until}, tick, 4, 5, api.Lock{Fails: 4, Until: tick + 5})
		}
	}
}

// P13.1: a lock's time: below 0, and above what a tick reaches, where a lock is never open.
func TestUntil(t *testing.T) {
	for _, until := range noUntils {
		for _, tick := range []int{0, 1, api.MaxTick} {
			checkNoFail(t, api.Lock{Until: until}, tick, 3, 5)
			checkNoFail(t, api.Lock{Fails: 3, Until: until}, tick, 3, 5)
		}
	}
	for _, until := range []int{api.MaxTick + 1, api.MaxTick + api.MaxLife - 1, lastUntil} {
		checkNoFail(t, api.Lock{Until: until}, api.MaxTick, 3, 5)
		checkNoFail(t, api.Lock{Until: until}, until, 3, 5)
	}
	checkFail(t, api.Lock{Until: api.MaxTick}, api.MaxTick, 3, 5, api.Lock{Fails: 1, Until: api.MaxTick})
	checkNoFail(t, api.Lock{Until: api.MaxTick}, api.MaxTick-1, 3, 5)
}

// P13.1: which locks may be; of those above MaxTick no call tells, as they are not open.
func TestMay(t *testing.T) {
	for _, until := range []int{0, 1, api.MaxTick, api.MaxTick + 1, lastUntil - 1, lastUntil} {
		for fails := range api.MaxFails + 1 {
			if k := (api.Lock{Fails: fails, Until: until}); !may(k) {
				t.Errorf("may(%v): false", k)
			}
		}
		for _, fails := range noFails {
			if k := (api.Lock{Fails: fails, Until: until}); may(k) {
				t.Errorf("may(%v): true", k)
			}
		}
	}
	for _, until := range noUntils {
		if k := (api.Lock{Until: until}); may(k) {
			t.Errorf("may(%v): true", k)
		}
	}
}

// P13.1: ticks just below, at and above a lock's time, and at their limits.
func TestTick(t *testing.T) {
	for _, k := range []api.Lock{{Until: 40}, {Fails: 2, Until: 40}, {Fails: 3, Until: 40}, {Fails: 8, Until: 40}} {
		want := api.Lock{Fails: k.Fails%3 + 1, Until: 40}
		if k.Fails > 3 {
			want.Fails = 1
		}
		for _, tick := range []int{0, 1, 38, 39} {
			checkNoFail(t, k, tick, 3, 5)
		}
		for _, tick := range []int{40, 41, 42, 45, api.MaxTick - 1, api.MaxTick} {
			if want.Fails == 3 {
				want.Until = tick + 5
			}
			checkFail(t, k, tick, 3, 5, want)
		}
		for _, tick := range noTicks {
			checkNoFail(t, k, tick, 3, 5)
		}
	}
	for _, tick := range noTicks {
		checkNoFail(t, api.Lock{}, tick, 3, 5)
		checkNoFail(t, api.Lock{}, tick, 1, 1)
	}
	checkFail(t, api.Lock{}, 0, 3, 5, api.Lock{Fails: 1})
	checkFail(t, api.Lock{}, api.MaxTick, 3, 5, api.Lock{Fails: 1})
}

// P13.1: the most, and the lockout, at their limits.
func TestLimits(t *testing.T) {
	for _, k := range []api.Lock{{}, {Fails: 1}, {Fails: 8}, {Fails: 8, Until: 9}} {
		for _, most := range noMosts {
			checkNoFail(t, k, 10, most, 5)
		}
		for _, lockout := range noLockouts {
			for most := 1; most <= api.MaxFails; most++ {
				checkNoFail(t, k, 10, most, lockout)
			}
		}
	}
	for _, lockout := range []int{1, 2, 255, 256, api.MaxLife - 1, api.MaxLife} {
		for _, tick := range []int{0, 1, 256, api.MaxTick - 1, api.MaxTick} {
			checkFail(t, api.Lock{}, tick, 1, lockout, api.Lock{Fails: 1, Until: tick + lockout})
			checkFail(t, api.Lock{Fails: 7}, tick, 8, lockout, api.Lock{Fails: 8, Until: tick + lockout})
			checkFail(t, api.Lock{Fails: 6}, tick, 8, lockout, api.Lock{Fails: 7})
		}
	}
	checkFail(t, api.Lock{}, api.MaxTick, 1, api.MaxLife, api.Lock{Fails: 1, Until: lastUntil})
}

// P13.1: Open compares, and asks nothing of its numbers.
func TestOpen(t *testing.T) {
	row := slices.Concat([]int{0, 1, 2, 39, 40, 41, 255, 256, api.MaxTick - 1, api.MaxTick, lastUntil - 1, lastUntil, math.MinInt + 1, math.MaxInt - 1}, noNumbers)
	slices.Sort(row)
	row = slices.Compact(row)
	for i, until := range row {
		for j, tick := range row {
			for _, fails := range []int{0, 1, 8, 9, -1, math.MinInt, math.MaxInt} {
				checkOpen(t, api.Lock{Fails: fails, Until: until}, tick, j >= i)
			}
		}
	}
}

// P13.1 with R2 and R6: several errors at once, each of them with nothing beside it.
func TestSeveral(t *testing.T) {
	fails, untils := append([]int{0, 3, 8}, noFails...), append([]int{0, 40}, noUntils...)
	for i, f := range fails {
		for j, until := range untils {
			k := api.Lock{Fails: f, Until: until}
			for n := range noTicks {
				tick, most, lockout := noTicks[n], noMosts[n], noLockouts[n]
				checkNoFail(t, k, tick, most, lockout)
				checkNoFail(t, k, tick, most, 5)
				checkNoFail(t, k, tick, 3, lockout)
				checkNoFail(t, k, 40, most, lockout)
				checkNoFail(t, k, 39, most, lockout)
				if i > 2 || j > 1 {
					checkNoFail(t, k, tick, 3, 5)
					checkNoFail(t, k, 40, most, 5)
					checkNoFail(t, k, 40, 3, lockout)
				}
			}
			if i > 2 || j > 1 {
				checkNoFail(t, k, 40, 3, 5)
			}
		}
	}
}

// read is Fail by the chapter's words, one by one.
func read(k api.Lock, tick, most, lockout int) (api.Lock, api.Errno) {
	for _, x := range [][3]int{{k.Fails, 0, 8}, {k.Until, 0, 1048575 + 65536}, {tick, 0, 1048575}, {most, 1, 8}, {lockout, 1, 65536}} {
		if x[0] < x[1] || x[0] > x[2] {
			return api.Lock{}, 1300
		}
	}
	if tick < k.Until {
		return api.Lock{}, 1300
	}
	if k.Fails >= most {
		k.Fails = 0
	}
	k.Fails++
	if k.Fails == most {
		k.Until = tick + lockout
	}
	return k, 0
}

// P13.1: calls held against a plain reader of the chapter's words.
func TestRandom(t *testing.T) {
	r := rand.New(rand.NewSource(13))
	pick := func(row []int, n int) int {
		if r.Intn(20) == 0 {
			return row[r.Intn(len(row))]
		}
		return r.Intn(n)
	}
	for range 200000 {
		k := api.Lock{Fails: pick(noFails, 9), Until: pick(noUntils, 60)}
		tick, most, lockout := pick(noTicks, 80), 1+pick(noMosts, 9), 1+pick(noLockouts, 100)
		got, e := Fail(k, tick, most, lockout)
		want, f := read(k, tick, most, lockout)
		if got != want || e != f {
			t.Fatalf("Fail(%v, %d, %d, %d): %v, %d, want %v, %d", k, tick, most, lockout, got, e, want, f)
		}
	}
}

// P13.1 with T4: between two ends of a lock there are never more failures than the most,
// and a count is never less than it was, but by the time.
func TestNeverMore(t *testing.T) {
	r := rand.New(rand.NewSource(4))
	for range 300 {
		most, lockout := 1+r.Intn(api.MaxFails), 1+r.Intn(60)
		k, failed := api.Lock{}, 0
		for tick := range 400 {
			if failed == most && tick == k.Until {
				failed = 0
			}
			for range r.Intn(4) {
				next, e := Fail(k, tick, most, lockout)
				if e != api.OK {
					continue
				}
				failed++
				if failed > most || next.Fails != failed {
					t.Fatalf("at %d: %v behind %v, failure %d of %d", tick, next, k, failed, most)
				}
				k = next
			}
		}
	}
}

// P13.1 with R5: several goroutines at one time.
func TestAtOneTime(t *testing.T) {
	var all sync.WaitGroup
	for most := 1; most <= api.MaxFails; most++ {
		all.Go(func() {
			for tick := range 1000 {
				checkFail(t, api.Lock{Fails: most - 1}, tick, most, most, api.Lock{Fails: most, Until: tick + most})
				checkOpen(t, api.Lock{Fails: most, Until: tick + most}, tick, false)
			}
		})
	}
	all.Wait()
}
