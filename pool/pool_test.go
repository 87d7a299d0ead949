package pool

import (
	"math"
	"math/rand"
	"slices"
	"sync"
	"testing"

	"bastion/api"
)

// below are numbers below 0, of which the first may be the Last of an address; the last
// ones, cut to fewer bits, would be numbers that may be.
var below = []int{-1, -2, -3, -8, -16, -255, -256, -api.MaxNum, math.MinInt32, -1 << 32, -1<<32 + 1, -1<<32 + 3, math.MinInt + 1, math.MinInt + 3, math.MinInt}

// above are numbers above all limits, but for that of Until, which has none.
var above = []int{api.MaxTick + 1, api.MaxTick + 2, 1 << 24, api.MaxNum, api.MaxNum + 1, math.MaxInt32, math.MaxInt32 + 1, 1 << 32, 1<<32 + 1, 1<<32 + 3, math.MaxInt - 1, math.MaxInt}

// noSizes, noLasts, noUsers and noTicks are outside their limits; noUntils is below.
var (
	noSizes = slices.Concat([]int{0, api.MaxAddresses + 1, api.MaxAddresses + 2, 32, 255, 256, 257}, below, above)
	noLasts = slices.Concat([]int{api.MaxUsers, api.MaxUsers + 1, 15, 16, 255, 256, 257}, below[1:], above)
	noUsers = slices.Concat([]int{api.MaxUsers, api.MaxUsers + 1, 15, 16, 255, 256, 257}, below, above)
	noTicks = slices.Concat(below, above)
)

// untils are of those that may be, the greatest number among them.
var untils = []int{0, 1, 255, 256, api.MaxTick - 1, api.MaxTick, api.MaxTick + 1, api.MaxTick + api.MaxLife, api.MaxNum, api.MaxNum + 1, math.MaxInt32 + 1, 1 << 32, math.MaxInt - 1, math.MaxInt}

// spare is what stands in a pool's spare room.
var spare = api.Address{Busy: true, Last: 77, Until: -5}

// roomy is a pool, and all of its memory: the spare room behind it, too, that no call may change.
type roomy struct {
	as, all []api.Address
}

func roomyOf(as []api.Address) roomy {
	all := append(slices.Clone(as), spare, spare)
	return roomy{all[:len(as)], all}
}

// many is a pool of so many addresses of that kind.
func many(n int, a api.Address) []api.Address {
	return slices.Repeat([]api.Address{a}, n)
}

// places are the first, a middle and the last place of a pool of n.
func places(n int) []int {
	return []int{0, n / 2, n - 1}
}

// checkAsItWas tells that a call left a pool as it was, its spare room too.
func checkAsItWas(t *testing.T, call string, p roomy, was []api.Address) {
	t.Helper()
	if !slices.Equal(p.as, was) || !slices.Equal(p.all[len(was):], []api.Address{spare, spare}) {
		t.Errorf("%s: %v is %v now", call, was, p.all)
	}
}

// checkLease tells which address is to be leased, twice.
func checkLease(t *testing.T, as []api.Address, user, tick, want int) {
	t.Helper()
	p := roomyOf(as)
	for range 2 {
		if got, e := Lease(p.as, user, tick); got != want || e != api.OK {
			t.Errorf("Lease(%v, %d, %d): %d, %d, want %d", as, user, tick, got, e, want)
		}
		checkAsItWas(t, "Lease", p, as)
	}
}

// checkNoLease tells that no address is to be leased, for that error.
func checkNoLease(t *testing.T, as []api.Address, user, tick int, want api.Errno) {
	t.Helper()
	p := roomyOf(as)
	if got, e := Lease(p.as, user, tick); got != 0 || e != want {
		t.Errorf("Lease(%v, %d, %d): %d, %d, want %d", as, user, tick, got, e, want)
	}
	checkAsItWas(t, "Lease", p, as)
}

// checkNext tells that a call gave as with that one address in the place of another, in
// memory of its own, and left as as it was.
func checkNext(t *testing.T, call string, p roomy, was, got []api.Address, e api.Errno, at int, want api.Address) {
	t.Helper()
	next := slices.Clone(was)
	next[at] = want
	if !slices.Equal(got, next) || e != api.OK {
		t.Errorf("%s of %v: %v, %d, want %v", call, was, got, e, next)
	}
	checkAsItWas(t, call, p, was)
	for k := range got {
		got[k] = spare
	}
	_ = append(got, api.Address{})
	checkAsItWas(t, call+" and a change of its answer", p, was)
}

func checkTake(t *testing.T, as []api.Address, address, user int) {
	t.Helper()
	p := roomyOf(as)
	for range 2 {
		got, e := Take(p.as, address, user)
		checkNext(t, "Take", p, as, got, e, address, api.Address{Busy: true, Last: user})
	}
}

func checkFree(t *testing.T, as []api.Address, address, until int) {
	t.Helper()
	p := roomyOf(as)
	for range 2 {
		got, e := Free(p.as, address, until)
		checkNext(t, "Free", p, as, got, e, address, api.Address{Last: as[address].Last, Until: until})
	}
}

// checkNoTake tells that an address is not taken, with nothing beside the error.
func checkNoTake(t *testing.T, as []api.Address, address, user int) {
	t.Helper()
	p := roomyOf(as)
	if got, e := Take(p.as, address, user); len(got) != 0 || e != api.ErrPoolForm {
		t.Errorf("Take(%v, %d, %d): %v, %d, want ErrPoolForm", as, address, user, got, e)
	}
	checkAsItWas(t, "Take", p, as)
}

// checkNoFree tells that an address is not freed, with nothing beside the error.
func checkNoFree(t *testing.T, as []api.Address, address, until int) {
	t.Helper()
	p := roomyOf(as)
	if got, e := Free(p.as, address, until); len(got) != 0 || e != api.ErrPoolForm {
		t.Errorf("Free(%v, %d, %d): %v, %d, want ErrPoolForm", as, address, until, got, e)
	}
	checkAsItWas(t, "Free", p, as)
}

// noAddresses are outside the places of n addresses.
func noAddresses(n int) []int {
	return slices.Concat([]int{n, n + 1, api.MaxAddresses, 255, 256, 257}, below, above)
}

// P16.1: New of each number of addresses that may be, and of those that may not.
func TestNew(t *testing.T) {
	for n := 1; n <= api.MaxAddresses; n++ {
		one, e := New(n)
		two, f := New(n)
		want := many(n, api.Address{Last: -1})
		if !slices.Equal(one, want) || e != api.OK || !slices.Equal(two, want) || f != api.OK {
			t.Errorf("New(%d): %v, %d, then %v, %d", n, one, e, two, f)
			continue
		}
		// R4: no two answers share memory.
		for k := range one {
			one[k] = spare
		}
		if three, _ := New(n); !slices.Equal(two, want) || !slices.Equal(three, want) {
			t.Errorf("New(%d) shares memory: %v, %v", n, two, three)
		}
	}
	for _, n := range noSizes {
		if as, e := New(n); len(as) != 0 || e != api.ErrPoolForm {
			t.Errorf("New(%d): %v, %d, want ErrPoolForm", n, as, e)
		}
	}
}

// P16.1, P16.2: how many addresses a pool may have.
func TestSizes(t *testing.T) {
	for n := 1; n <= api.MaxAddresses; n++ {
		open, busy := many(n, api.Address{Last: -1}), many(n, api.Address{Busy: true})
		checkLease(t, open, 0, 0, 0)
		checkNoLease(t, busy, 0, 0, api.ErrPoolFull)
		for at := range n {
			checkTake(t, open, at, 5)
			checkFree(t, busy, at, 5)
		}
	}
	for _, n := range []int{0, api.MaxAddresses + 1, api.MaxAddresses + 2, 32, 256, 257, 300} {
		for _, a := range []api.Address{{}, {Last: -1}, {Busy: true}} {
			as := many(n, a)
			for _, at := range []int{0, 1, 15, n - 1} {
				checkNoLease(t, as, 0, 0, api.ErrPoolForm)
				checkNoTake(t, as, at, 0)
				checkNoFree(t, as, at, 0)
			}
		}
	}
	if at, e := Lease(nil, 0, 0); at != 0 || e != api.ErrPoolForm {
		t.Errorf("Lease of nil: %d, %d", at, e)
	}
	if as, e := Take(nil, 0, 0); len(as) != 0 || e != api.ErrPoolForm {
		t.Errorf("Take of nil: %v, %d", as, e)
	}
	if as, e := Free(nil, 0, 0); len(as) != 0 || e != api.ErrPoolForm {
		t.Errorf("Free of nil: %v, %d", as, e)
	}
}

// checkMay tells that a pool of so many with that address at that place may be: each call takes it.
func checkMay(t *testing.T, n, at int, a api.Address) {
	t.Helper()
	as := many(n, api.Address{Last: 4})
	as[at] = a
	for _, tick := range []int{0, 1, api.MaxTick} {
		if want, e := readLease(as, 4, tick); e == api.OK {
			checkLease(t, as, 4, tick, want)
		} else {
			checkNoLease(t, as, 4, tick, api.ErrPoolFull)
		}
	}
	for k := range n {
		if as[k].Busy {
			checkFree(t, as, k, 9)
		} else {
			checkTake(t, as, k, 2)
		}
	}
}

// checkMayNot tells that a pool of so many with that address at that place may not be: each call refuses it.
func checkMayNot(t *testing.T, n, at int, a api.Address) {
	t.Helper()
	for _, other := range []api.Address{{Last: 4}, {Busy: true, Last: 4}} {
		as := many(n, other)
		as[at] = a
		checkNoLease(t, as, 4, 0, api.ErrPoolForm)
		checkNoLease(t, as, 4, api.MaxTick, api.ErrPoolForm)
		for k := range n {
			checkNoTake(t, as, k, 2)
			checkNoFree(t, as, k, 9)
		}
	}
}

// P16.1, P16.2: which addresses a pool may have, at its first, a middle and its last place.
func TestMay(t *testing.T) {
	for _, n := range []int{1, 2, 3, 7, api.MaxAddresses} {
		for _, at := range places(n) {
			for _, busy := range []bool{false, true} {
				for last := -1; last < api.MaxUsers; last++ {
					for _, until := range untils {
						checkMay(t, n, at, api.Address{Busy: busy, Last: last, Until: until})
					}
					for _, until := range below {
						checkMayNot(t, n, at, api.Address{Busy: busy, Last: last, Until: until})
					}
				}
				for _, last := range noLasts {
					checkMayNot(t, n, at, api.Address{Busy: busy, Last: last})
					checkMayNot(t, n, at, api.Address{Busy: busy, Last: last, Until: math.MaxInt})
					checkMayNot(t, n, at, api.Address{Busy: busy, Last: last, Until: -1})
				}
			}
		}
	}
}

// P16.1, P16.2: each user's number, and those of none.
func TestUsers(t *testing.T) {
	for _, n := range []int{1, 3, api.MaxAddresses} {
		open, busy := many(n, api.Address{Last: -1}), many(n, api.Address{Busy: true})
		for user := range api.MaxUsers {
			checkLease(t, open, user, 0, 0)
			checkNoLease(t, busy, user, 0, api.ErrPoolFull)
			for _, at := range places(n) {
				checkTake(t, open, at, user)
				as := many(n, api.Address{Last: (user + 1) % api.MaxUsers})
				as[at].Last = user
				checkLease(t, as, user, 0, at)
			}
		}
		for _, user := range noUsers {
			checkNoLease(t, open, user, 0, api.ErrPoolForm)
			checkNoLease(t, busy, user, 0, api.ErrPoolForm)
			for _, at := range places(n) {
				checkNoTake(t, open, at, user)
				checkNoTake(t, busy, at, user)
			}
		}
	}
}

// P16.1: ticks at their limits and beyond, and Until one below, at and one above a tick.
func TestTicks(t *testing.T) {
	for _, n := range []int{1, 3, api.MaxAddresses} {
		open := many(n, api.Address{Last: -1})
		for _, tick := range []int{0, 1, 40, 255, 256, 65536, api.MaxTick - 1, api.MaxTick} {
			checkLease(t, open, 3, tick, 0)
			for last := -1; last < api.MaxUsers; last++ {
				for _, until := range []int{tick - 1, tick, tick + 1} {
					if until < 0 {
						continue
					}
					as := many(n, api.Address{Last: last, Until: until})
					if until > tick {
						checkNoLease(t, as, 3, tick, api.ErrPoolFull)
					} else {
						checkLease(t, as, 3, tick, 0)
					}
				}
			}
		}
		for _, tick := range noTicks {
			for _, user := range []int{0, 3, 7} {
				checkNoLease(t, open, user, tick, api.ErrPoolForm)
				checkNoLease(t, many(n, api.Address{Busy: true}), user, tick, api.ErrPoolForm)
				checkNoLease(t, many(n, api.Address{Until: math.MaxInt}), user, tick, api.ErrPoolForm)
			}
		}
	}
}

// own, fresh, other are addresses of each of user 3's ranks at tick 50; what begins with
// busy is leased, and with late not yet due.
var (
	own   = api.Address{Last: 3, Until: 50}
	fresh = api.Address{Last: -1}
	other = api.Address{Last: 5, Until: 2}

	busyOwn   = api.Address{Busy: true, Last: 3}
	busyFresh = api.Address{Busy: true, Last: -1}
	busyOther = api.Address{Busy: true, Last: 5}
	lateOwn   = api.Address{Last: 3, Until: 51}
	lateFresh = api.Address{Last: -1, Until: 51}
	lateOther = api.Address{Last: 5, Until: math.MaxInt}
)

// P16.1: each rank of Lease, told one by one: of each the first that is due and not busy.
func TestRanks(t *testing.T) {
	for _, r := range []struct {
		as   []api.Address
		want int
	}{
		{[]api.Address{own}, 0},
		{[]api.Address{fresh}, 0},
		{[]api.Address{other}, 0},
		{[]api.Address{own, own, own}, 0},
		{[]api.Address{fresh, fresh, fresh}, 0},
		{[]api.Address{other, other, other}, 0},
		{[]api.Address{other, fresh, own}, 2},
		{[]api.Address{fresh, other, own}, 2},
		{[]api.Address{other, own, fresh}, 1},
		{[]api.Address{own, fresh, other}, 0},
		{[]api.Address{other, fresh, own, own}, 2},
		{[]api.Address{other, other, fresh, fresh}, 2},
		{[]api.Address{other, fresh, other, fresh}, 1},
		{[]api.Address{busyOwn, own, own}, 1},
		{[]api.Address{lateOwn, own, own}, 1},
		{[]api.Address{busyOwn, lateOwn, fresh, own}, 3},
		{[]api.Address{busyOwn, lateOwn, other, fresh}, 3},
		{[]api.Address{busyOwn, other, other}, 1},
		{[]api.Address{lateOwn, other, other}, 1},
		{[]api.Address{busyFresh, fresh, fresh}, 1},
		{[]api.Address{lateFresh, fresh, fresh}, 1},
		{[]api.Address{busyFresh, lateFresh, other, fresh}, 3},
		{[]api.Address{busyFresh, lateFresh, other, other}, 2},
		{[]api.Address{busyOther, other, other}, 1},
		{[]api.Address{lateOther, other, other}, 1},
		{[]api.Address{busyOwn, lateOwn, busyFresh, lateFresh, busyOther, lateOther, other}, 6},
		{[]api.Address{busyOwn, lateOwn, busyFresh, lateFresh, busyOther, lateOther, other, fresh}, 7},
		{[]api.Address{busyOwn, lateOwn, busyFresh, lateFresh, busyOther, lateOther, other, fresh, own}, 8},
		{[]api.Address{{Busy: true, Last: 3, Until: 60}, {Last: 0}, {Last: 7}}, 1},
		{[]api.Address{{Last: 7, Until: 49}, {Last: 0, Until: 1}}, 0},
	} {
		checkLease(t, r.as, 3, 50, r.want)
	}
}

// P16.1: pools of which no address is to be leased.
func TestFull(t *testing.T) {
	none := []api.Address{busyOwn, busyFresh, busyOther, lateOwn, lateFresh, lateOther}
	for n := 1; n <= api.MaxAddresses; n++ {
		for _, a := range none {
			checkNoLease(t, many(n, a), 3, 50, api.ErrPoolFull)
			for _, at := range places(n) {
				for want, b := range []api.Address{own, fresh, other} {
					as := many(n, a)
					as[at] = b
					checkLease(t, as, 3, 50, at)
					// What is of a lower rank is never ahead of it.
					if at > 0 && want < 2 {
						as[0] = other
						checkLease(t, as, 3, 50, at)
					}
				}
			}
		}
		as := []api.Address{}
		for k := range n {
			as = append(as, none[(k*5+n)%len(none)])
		}
		checkNoLease(t, as, 3, 50, api.ErrPoolFull)
	}
}

// P16.2: Take of an address that is busy, or isn't there; what it was is gone, even if it isn't due.
func TestTake(t *testing.T) {
	for _, n := range []int{1, 2, 5, api.MaxAddresses} {
		for at := range n {
			for _, a := range []api.Address{own, fresh, other, lateOwn, lateFresh, lateOther} {
				as := many(n, busyOther)
				as[at] = a
				for user := range api.MaxUsers {
					checkTake(t, as, at, user)
				}
				for k := range n {
					if k != at {
						checkNoTake(t, as, k, 3)
					}
				}
			}
			as := many(n, lateOwn)
			as[at] = busyOwn
			checkNoTake(t, as, at, 3)
			as[at] = api.Address{Busy: true, Last: 5, Until: 9}
			checkNoTake(t, as, at, 5)
		}
		for _, at := range noAddresses(n) {
			checkNoTake(t, many(n, fresh), at, 3)
			checkNoTake(t, many(n, busyOwn), at, 3)
		}
	}
}

// P16.2: Free of an address that is not busy, or isn't there, and until each number.
func TestFree(t *testing.T) {
	for _, n := range []int{1, 2, 5, api.MaxAddresses} {
		for at := range n {
			for last := -1; last < api.MaxUsers; last++ {
				as := many(n, own)
				as[at] = api.Address{Busy: true, Last: last, Until: 9}
				for _, until := range untils {
					checkFree(t, as, at, until)
				}
				for _, until := range below {
					checkNoFree(t, as, at, until)
				}
				for k := range n {
					if k != at {
						checkNoFree(t, as, k, 0)
						checkNoFree(t, as, k, -1)
					}
				}
			}
			for _, a := range []api.Address{own, fresh, other, lateOwn, lateFresh, lateOther} {
				as := many(n, busyOther)
				as[at] = a
				checkNoFree(t, as, at, 60)
			}
		}
		for _, at := range noAddresses(n) {
			checkNoFree(t, many(n, fresh), at, 60)
			checkNoFree(t, many(n, busyOwn), at, 60)
		}
	}
}

// P16.1, P16.2 with R2 and R6: several errors at once; a pool that is full is told only where all else may be.
func TestSeveral(t *testing.T) {
	pools := [][]api.Address{nil, many(17, busyOwn), {{Last: -2}}, {{Busy: true, Until: -1}}, {busyOwn, {Busy: true, Last: 8, Until: -1}}, {busyOwn}, {own}}
	for k, as := range pools {
		for i, user := range append([]int{3}, noUsers...) {
			for j, tick := range append([]int{50}, noTicks...) {
				if k < 5 || i > 0 || j > 0 {
					checkNoLease(t, as, user, tick, api.ErrPoolForm)
				}
			}
			for _, at := range []int{-1, 0, 1, len(as), math.MinInt, math.MaxInt} {
				if k < 6 || i > 0 || at != 0 {
					checkNoTake(t, as, at, user)
				}
			}
		}
		for i, until := range append([]int{60}, below...) {
			for _, at := range []int{-1, 0, 1, len(as), math.MinInt, math.MaxInt} {
				if k != 5 || i > 0 || at != 0 {
					checkNoFree(t, as, at, until)
				}
			}
		}
	}
}

// isPool is which pools may be, by the chapter's words.
func isPool(as []api.Address) bool {
	fits := len(as) >= 1 && len(as) <= 16
	for _, a := range as {
		fits = fits && a.Last >= -1 && a.Last < 8 && a.Until >= 0
	}
	return fits
}

// readLease is Lease by the chapter's words: the rank of each, and the first of the best one.
func readLease(as []api.Address, user, tick int) (int, api.Errno) {
	if !isPool(as) || user < 0 || user > 7 || tick < 0 || tick > 1048575 {
		return 0, 1600
	}
	best, rank := 0, 4
	for k, a := range as {
		its := 3
		if a.Last == -1 {
			its = 2
		}
		if a.Last == user {
			its = 1
		}
		if !a.Busy && a.Until <= tick && its < rank {
			best, rank = k, its
		}
	}
	if rank == 4 {
		return 0, 1601
	}
	return best, 0
}

// readTake is Take by the chapter's words.
func readTake(as []api.Address, address, user int) ([]api.Address, api.Errno) {
	if !isPool(as) || user < 0 || user > 7 || address < 0 || address >= len(as) || as[address].Busy {
		return nil, 1600
	}
	return slices.Concat(as[:address], []api.Address{{Busy: true, Last: user}}, as[address+1:]), 0
}

// readFree is Free by the chapter's words.
func readFree(as []api.Address, address, until int) ([]api.Address, api.Errno) {
	if !isPool(as) || address < 0 || address >= len(as) || !as[address].Busy || until < 0 {
		return nil, 1600
	}
	return slices.Concat(as[:address], []api.Address{{Last: as[address].Last, Until: until}}, as[address+1:]), 0
}

// checkRead tells that the three calls answer what the plain readers do.
func checkRead(t *testing.T, as []api.Address, address, user, tick int) {
	t.Helper()
	p := roomyOf(as)
	at, e := Lease(p.as, user, tick)
	if want, f := readLease(as, user, tick); at != want || e != f {
		t.Fatalf("Lease(%v, %d, %d): %d, %d, want %d, %d", as, user, tick, at, e, want, f)
	}
	next, e := Take(p.as, address, user)
	if want, f := readTake(as, address, user); !slices.Equal(next, want) || e != f {
		t.Fatalf("Take(%v, %d, %d): %v, %d, want %v, %d", as, address, user, next, e, want, f)
	}
	next, e = Free(p.as, address, tick)
	if want, f := readFree(as, address, tick); !slices.Equal(next, want) || e != f {
		t.Fatalf("Free(%v, %d, %d): %v, %d, want %v, %d", as, address, tick, next, e, want, f)
	}
	checkAsItWas(t, "all calls", p, as)
}

// P16.1, P16.2: every pool of one to three addresses of a few kinds; of the short ones every call.
func TestEveryPool(t *testing.T) {
	kinds := []api.Address{}
	for _, busy := range []bool{false, true} {
		for _, last := range []int{-2, -1, 0, 1} {
			for _, until := range []int{-1, 0, 4, 5, 6} {
				kinds = append(kinds, api.Address{Busy: busy, Last: last, Until: until})
			}
		}
	}
	row := [][]api.Address{nil}
	for n := range 3 {
		longer := [][]api.Address{}
		for _, as := range row {
			for _, a := range kinds {
				longer = append(longer, append(slices.Clone(as), a))
			}
		}
		row = longer
		for k, as := range row {
			// There are too many of the longest ones for each call of each.
			if n == 2 {
				checkRead(t, as, k%5-1, k%4-1, k%7-1)
				checkRead(t, as, k%3, k%2, 5)
				continue
			}
			for user := -1; user < 3; user++ {
				for tick := -1; tick < 7; tick++ {
					for address := -1; address < 4; address++ {
						checkRead(t, as, address, user, tick)
					}
				}
			}
		}
	}
}

// P16.1, P16.2: pools of any address, with numbers that may not be among them.
func TestRandom(t *testing.T) {
	r := rand.New(rand.NewSource(16))
	pick := func(row []int, n, odds int) int {
		if r.Intn(odds) == 0 {
			return row[r.Intn(len(row))]
		}
		return r.Intn(n)
	}
	lasts := []int{-1, -1, 0, 1, 2, 3, 4, 5, 6, 7}
	for range 200000 {
		as := make([]api.Address, pick([]int{0, 17, 18, 40}, 17, 30))
		for k := range as {
			as[k] = api.Address{Busy: r.Intn(3) > 0, Last: lasts[r.Intn(len(lasts))], Until: pick(below, 40, 600)}
			if r.Intn(600) == 0 {
				as[k].Last = noLasts[r.Intn(len(noLasts))]
			}
		}
		address := pick(noAddresses(len(as)), len(as)+1, 20)
		checkRead(t, as, address, pick(noUsers, 8, 30), pick(noTicks, 30, 30))
	}
}

// P16.1, P16.2 with T3: rows of leases, takes and frees, each held against the plain
// readers; no address belongs to two sessions, and each stays free for its quarantine.
func TestRows(t *testing.T) {
	r := rand.New(rand.NewSource(3))
	for range 400 {
		n := 1 + r.Intn(api.MaxAddresses)
		as, _ := New(n)
		owners, dues := slices.Repeat([]int{-1}, n), make([]int, n)
		tick, most := 0, 1+r.Intn(30)
		for range 80 {
			tick += r.Intn(4)
			address, user := r.Intn(n), r.Intn(api.MaxUsers)
			checkRead(t, as, address, user, tick)
			if r.Intn(2) > 0 {
				next, e := Free(as, address, tick+most)
				if (e == api.OK) != (owners[address] >= 0) {
					t.Fatalf("Free(%v, %d, %d): %d", as, address, tick+most, e)
				}
				if e == api.OK {
					as, owners[address], dues[address] = next, -1, tick+most
				}
				continue
			}
			at, e := Lease(as, user, tick)
			if e != api.OK {
				continue
			}
			next, e := Take(as, at, user)
			if e != api.OK || owners[at] >= 0 || tick < dues[at] {
				t.Fatalf("Take(%v, %d, %d) at %d: %d; it was %d's, and due at %d", as, at, user, tick, e, owners[at], dues[at])
			}
			as, owners[at] = next, user
		}
		for k, owner := range owners {
			if as[k].Busy != (owner >= 0) || owner >= 0 && as[k].Last != owner {
				t.Fatalf("%v, want owners %v", as, owners)
			}
		}
	}
}

// P16.1, P16.2: a row of calls, told one by one: a user gets its own address again, once it is due.
func TestRowTold(t *testing.T) {
	as, _ := New(2)
	checkLease(t, as, 4, 10, 0)
	as, _ = Take(as, 0, 4)
	checkLease(t, as, 6, 10, 1)
	as, _ = Take(as, 1, 6)
	checkNoLease(t, as, 4, api.MaxTick, api.ErrPoolFull)
	as, _ = Free(as, 1, 30)
	as, _ = Free(as, 0, 40)
	if want := []api.Address{{Last: 4, Until: 40}, {Last: 6, Until: 30}}; !slices.Equal(as, want) {
		t.Errorf("%v, want %v", as, want)
	}
	checkNoLease(t, as, 4, 29, api.ErrPoolFull)
	checkLease(t, as, 4, 30, 1)
	checkLease(t, as, 4, 39, 1)
	checkLease(t, as, 4, 40, 0)
	checkLease(t, as, 6, 40, 1)
	checkLease(t, as, 7, 40, 0)
	as, _ = Take(as, 0, 7)
	checkLease(t, as, 4, 40, 1)
	as, _ = Free(as, 0, 0)
	checkLease(t, as, 4, 40, 0)
	checkLease(t, as, 7, 0, 0)
	checkLease(t, as, 6, 30, 1)
}

// P16.1, P16.2 with R5: several goroutines at one time, over one pool.
func TestAtOneTime(t *testing.T) {
	as := []api.Address{busyOwn, fresh, other, own}
	var all sync.WaitGroup
	for user := range api.MaxUsers {
		all.Go(func() {
			for range 500 {
				want := 1
				switch user {
				case 3:
					want = 3
				case 5:
					want = 2
				}
				checkLease(t, as, user, 50, want)
				checkTake(t, as, want, user)
				checkFree(t, as, 0, user)
				if row, e := New(user + 1); len(row) != user+1 || e != api.OK {
					t.Errorf("New(%d): %v, %d", user+1, row, e)
				}
			}
		})
	}
	all.Wait()
}
