package half

import (
	"maps"
	"math"
	"math/rand"
	"slices"
	"sync"
	"testing"

	"bastion/api"
)

// noMosts are no numbers of halves that may wait; the last ones, cut to fewer bits, would be.
var noMosts = []int{0, -1, -2, -7, -8, -9, -255, -256, -api.MaxNum, math.MinInt32, -1 << 32, -1<<32 + 1, -1<<32 + 8, math.MinInt, math.MinInt + 1, math.MinInt + 8, api.MaxHalves + 1, api.MaxHalves + 2, 15, 16, 255, 256, 257, api.MaxNum, math.MaxInt32, math.MaxInt32 + 1, 1 << 32, 1<<32 + 1, 1<<32 + 8, math.MaxInt - 1, math.MaxInt}

// numbers are any: the chapter asks nothing of a half's number, of its user, of both nonces, and of a tick.
var numbers = []int{math.MinInt, math.MinInt + 1, -1<<32 + 1, -1 << 32, math.MinInt32, -api.MaxNum, -256, -2, -1, 0, 1, 2, 7, 8, 9, 255, 256, api.MaxTick - 1, api.MaxTick, api.MaxTick + 1, api.MaxTick + api.MaxLife, api.MaxNum, api.MaxNum + 1, math.MaxInt32, math.MaxInt32 + 1, 1 << 32, 1<<32 + 1, math.MaxInt - 1, math.MaxInt}

// spare is what stands ahead of a row and in its spare room; over is what a test writes over an answer.
var (
	spare = api.Half{Half: 77, User: -5, Client: 78, Server: 79, Until: math.MaxInt}
	over  = api.Half{Half: -6, User: 81, Client: -82, Server: 83, Until: -84}
)

// roomy is a row, and all of its memory: what is ahead of it and the spare room behind it, too, that no call may change.
type roomy struct {
	hs, all []api.Half
}

func roomyOf(hs []api.Half) roomy {
	all := slices.Concat([]api.Half{spare}, hs, []api.Half{spare, spare})
	return roomy{all[1 : 1+len(hs)], all}
}

// halfOf is a half of that number and Until; its nonces are unlike those of a half of another number.
func halfOf(k, until int) api.Half {
	return api.Half{Half: k, User: k % api.MaxUsers, Client: 100 + k, Server: 5000 - k, Until: until}
}

// rowOf is a row of halves, numbered from first on, of those Untils.
func rowOf(first int, untils ...int) []api.Half {
	hs := []api.Half{}
	for k, until := range untils {
		hs = append(hs, halfOf(first+k, until))
	}
	return hs
}

// many is a row of n halves, numbered from first on, of one Until.
func many(first, n, until int) []api.Half {
	return rowOf(first, slices.Repeat([]int{until}, n)...)
}

// places are the first, a middle and the last place of a row of n.
func places(n int) []int {
	return []int{0, n / 2, n - 1}
}

// without is a row without the half at that place.
func without(hs []api.Half, at int) []api.Half {
	return slices.Concat(hs[:at], hs[at+1:])
}

// with is a row with one half more at that place.
func with(hs []api.Half, at int, h api.Half) []api.Half {
	return slices.Concat(hs[:at], []api.Half{h}, hs[at:])
}

// checkAsItWas tells that a call left a row as it was, and what is about it, too.
func checkAsItWas(t *testing.T, call string, p roomy, was []api.Half) {
	t.Helper()
	if want := roomyOf(was).all; !slices.Equal(p.all, want) {
		t.Fatalf("%s: %v is %v now", call, want, p.all)
	}
}

// checkOwn tells that a call left a row as it was, and that each of its answers has memory
// of its own: what is written over one and its spare room changes neither the row nor another one.
func checkOwn(t *testing.T, call string, p roomy, was []api.Half, answers ...[]api.Half) {
	t.Helper()
	checkAsItWas(t, call, p, was)
	rooms, wants := [][]api.Half{}, [][]api.Half{}
	for _, got := range answers {
		rooms = append(rooms, got[:cap(got)])
		wants = append(wants, slices.Clone(got[:cap(got)]))
	}
	for k, room := range rooms {
		for j := range room {
			room[j] = over
		}
		checkAsItWas(t, call+" and a change of its answer", p, was)
		for i := k + 1; i < len(rooms); i++ {
			if !slices.Equal(rooms[i], wants[i]) {
				t.Fatalf("%s: a change of one answer made another %v, want %v", call, rooms[i], wants[i])
			}
		}
	}
}

// checkExpire tells which halves wait, twice (R5).
func checkExpire(t *testing.T, hs []api.Half, tick int, want []api.Half) {
	t.Helper()
	p := roomyOf(hs)
	one, two := Expire(p.hs, tick), Expire(p.hs, tick)
	for _, got := range [][]api.Half{one, two} {
		if !slices.Equal(got, want) {
			t.Errorf("Expire(%v, %d): %v, want %v", hs, tick, got, want)
		}
	}
	checkOwn(t, "Expire", p, hs, one, two)
}

// checkAdd tells that a half is taken into a row, of which those stay that wait, twice.
func checkAdd(t *testing.T, hs []api.Half, h api.Half, most, tick int, stay []api.Half) {
	t.Helper()
	p, want := roomyOf(hs), slices.Concat(stay, []api.Half{h})
	one, e := Add(p.hs, h, most, tick)
	two, f := Add(p.hs, h, most, tick)
	if !slices.Equal(one, want) || !slices.Equal(two, want) || e != api.OK || f != api.OK {
		t.Errorf("Add(%v, %v, %d, %d): %v, %d and %v, %d, want %v", hs, h, most, tick, one, e, two, f, want)
	}
	checkOwn(t, "Add", p, hs, one, two)
}

// checkNoAdd tells that a half is refused, with nothing beside the error (R2).
func checkNoAdd(t *testing.T, hs []api.Half, h api.Half, most, tick int, want api.Errno) {
	t.Helper()
	p := roomyOf(hs)
	if got, e := Add(p.hs, h, most, tick); len(got) != 0 || e != want {
		t.Errorf("Add(%v, %v, %d, %d): %v, %d, want %d", hs, h, most, tick, got, e, want)
	}
	checkAsItWas(t, "Add", p, hs)
}

// checkTake tells which half is taken, and which others wait, twice.
func checkTake(t *testing.T, hs []api.Half, half, tick int, want api.Half, rest []api.Half) {
	t.Helper()
	p := roomyOf(hs)
	got, one, e := Take(p.hs, half, tick)
	again, two, f := Take(p.hs, half, tick)
	if got != want || !slices.Equal(one, rest) || e != api.OK {
		t.Errorf("Take(%v, %d, %d): %v, %v, %d, want %v, %v", hs, half, tick, got, one, e, want, rest)
	}
	if again != want || !slices.Equal(two, rest) || f != api.OK {
		t.Errorf("Take(%v, %d, %d) again: %v, %v, %d, want %v, %v", hs, half, tick, again, two, f, want, rest)
	}
	checkOwn(t, "Take", p, hs, one, two)
}

// checkNoTake tells that no half is taken, with nothing beside the error (R2).
func checkNoTake(t *testing.T, hs []api.Half, half, tick int) {
	t.Helper()
	p := roomyOf(hs)
	if got, rest, e := Take(p.hs, half, tick); got != (api.Half{}) || len(rest) != 0 || e != api.ErrHalfNone {
		t.Errorf("Take(%v, %d, %d): %v, %v, %d, want ErrHalfNone", hs, half, tick, got, rest, e)
	}
	checkAsItWas(t, "Take", p, hs)
}

// readExpire is Expire by the chapter's words, told from behind: what is not above tick is cut out.
func readExpire(hs []api.Half, tick int) []api.Half {
	live := slices.Clone(hs)
	for k := len(hs) - 1; k >= 0; k-- {
		if tick >= hs[k].Until {
			live = without(live, k)
		}
	}
	return live
}

// readAdd is Add by the chapter's words.
func readAdd(hs []api.Half, h api.Half, most, tick int) ([]api.Half, api.Errno) {
	live := readExpire(hs, tick)
	switch {
	case most < 1 || most > 8 || h.Until <= tick:
		return nil, 1800
	case len(live) >= most:
		return nil, 1801
	}
	return with(live, len(live), h), 0
}

// readTake is Take by the chapter's words.
func readTake(hs []api.Half, half, tick int) (api.Half, []api.Half, api.Errno) {
	live := readExpire(hs, tick)
	for k, h := range live {
		if h.Half == half {
			return h, without(live, k), 0
		}
	}
	return api.Half{}, nil, 1802
}

// checkRead tells that the three calls answer what the plain readers do, in memory of their own.
func checkRead(t *testing.T, hs []api.Half, h api.Half, most, half, tick int) {
	t.Helper()
	p := roomyOf(hs)
	live := Expire(p.hs, tick)
	if want := readExpire(hs, tick); !slices.Equal(live, want) {
		t.Fatalf("Expire(%v, %d): %v, want %v", hs, tick, live, want)
	}
	more, e := Add(p.hs, h, most, tick)
	if want, f := readAdd(hs, h, most, tick); !slices.Equal(more, want) || e != f {
		t.Fatalf("Add(%v, %v, %d, %d): %v, %d, want %v, %d", hs, h, most, tick, more, e, want, f)
	}
	got, rest, e := Take(p.hs, half, tick)
	if it, want, f := readTake(hs, half, tick); got != it || !slices.Equal(rest, want) || e != f {
		t.Fatalf("Take(%v, %d, %d): %v, %v, %d, want %v, %v, %d", hs, half, tick, got, rest, e, it, want, f)
	}
	checkOwn(t, "all calls", p, hs, live, more, rest)
}

// P18.1: nil and empty rows: nothing waits there, nobody has a Half, and one more has room.
func TestEmpty(t *testing.T) {
	for _, hs := range [][]api.Half{nil, {}, make([]api.Half, 0, 4)} {
		for _, tick := range numbers {
			if got := Expire(hs, tick); len(got) != 0 {
				t.Errorf("Expire of none, %d: %v", tick, got)
			}
			for _, half := range numbers {
				if h, rest, e := Take(hs, half, tick); h != (api.Half{}) || len(rest) != 0 || e != api.ErrHalfNone {
					t.Errorf("Take of none, %d, %d: %v, %v, %d", half, tick, h, rest, e)
				}
			}
			checkExpire(t, hs, tick, nil)
			checkNoTake(t, hs, 0, tick)
			checkNoAdd(t, hs, halfOf(3, tick), 1, tick, api.ErrHalfForm)
			if tick < math.MaxInt {
				checkAdd(t, hs, halfOf(3, tick+1), 1, tick, nil)
				got, e := Add(hs, halfOf(3, tick+1), 8, tick)
				if !slices.Equal(got, rowOf(3, tick+1)) || e != api.OK {
					t.Errorf("Add to none, %d: %v, %d", tick, got, e)
				}
			}
		}
		if room := hs[:cap(hs)]; slices.ContainsFunc(room, func(h api.Half) bool { return h != (api.Half{}) }) {
			t.Errorf("an empty row's spare room is %v now", room)
		}
	}
	// Halves of zeros are no empty row: they wait at -1, and are over at 0.
	checkExpire(t, make([]api.Half, 3), 0, nil)
	checkExpire(t, make([]api.Half, 3), -1, make([]api.Half, 3))
	checkNoTake(t, make([]api.Half, 3), 0, 0)
	checkTake(t, make([]api.Half, 3), 0, -1, api.Half{}, make([]api.Half, 2))
	checkNoAdd(t, nil, api.Half{}, 1, 0, api.ErrHalfForm)
	checkAdd(t, nil, api.Half{}, 1, -1, nil)
}

// P18.1: an Until of each number against a tick of each, the least and the greatest ones and their neighbours among them.
func TestUntils(t *testing.T) {
	for _, tick := range numbers {
		for _, until := range slices.Concat(numbers, []int{tick - 1, tick, tick + 1}) {
			hs, h := rowOf(4, until), halfOf(9, until)
			if until > tick {
				checkExpire(t, hs, tick, hs)
				checkTake(t, hs, 4, tick, hs[0], nil)
				checkAdd(t, nil, h, 1, tick, nil)
				checkNoAdd(t, hs, h, 1, tick, api.ErrHalfFull)
				checkAdd(t, hs, h, 2, tick, hs)
			} else {
				checkExpire(t, hs, tick, nil)
				checkNoTake(t, hs, 4, tick)
				checkNoAdd(t, nil, h, 1, tick, api.ErrHalfForm)
				checkNoAdd(t, hs, h, 8, tick, api.ErrHalfForm)
			}
			checkNoTake(t, hs, 9, tick)
		}
	}
	// No number is above the greatest, and none that is above the least is over at it.
	checkNoAdd(t, nil, halfOf(9, math.MaxInt), 8, math.MaxInt, api.ErrHalfForm)
	checkNoAdd(t, nil, halfOf(9, math.MinInt), 8, math.MinInt, api.ErrHalfForm)
	checkAdd(t, nil, halfOf(9, math.MaxInt), 8, math.MinInt, nil)
	checkExpire(t, rowOf(4, numbers...), math.MaxInt, nil)
	checkExpire(t, rowOf(4, numbers...), math.MinInt, rowOf(4, numbers...)[1:])
}

// P18.1: Untils one below a tick, at it, and one above, at each place of a row of others.
func TestUntilsInRows(t *testing.T) {
	for _, tick := range []int{-40, -1, 0, 1, 50, api.MaxTick, api.MaxNum, 1 << 32} {
		for n := range 10 {
			for at := range n + 1 {
				live, gone := many(0, n, tick+30), many(0, n, tick-30)
				for _, until := range []int{tick - 1, tick, tick + 1} {
					h := halfOf(60, until)
					if until > tick {
						checkExpire(t, with(live, at, h), tick, with(live, at, h))
						checkExpire(t, with(gone, at, h), tick, []api.Half{h})
						checkTake(t, with(live, at, h), 60, tick, h, live)
						checkTake(t, with(gone, at, h), 60, tick, h, nil)
					} else {
						checkExpire(t, with(live, at, h), tick, live)
						checkExpire(t, with(gone, at, h), tick, nil)
						checkNoTake(t, with(live, at, h), 60, tick)
						checkNoTake(t, with(gone, at, h), 60, tick)
					}
				}
			}
		}
	}
}

// P18.1: what waits keeps its row, whatever its numbers and whatever is over between.
func TestOrder(t *testing.T) {
	hs := []api.Half{halfOf(8, 70), halfOf(3, 40), halfOf(9, 60), halfOf(1, 50), halfOf(5, 90), halfOf(2, 50), halfOf(7, 51)}
	for _, r := range []struct {
		tick int
		want []api.Half
	}{
		{39, hs},
		{40, without(hs, 1)},
		{49, without(hs, 1)},
		{50, []api.Half{hs[0], hs[2], hs[4], hs[6]}},
		{51, []api.Half{hs[0], hs[2], hs[4]}},
		{60, []api.Half{hs[0], hs[4]}},
		{89, []api.Half{hs[4]}},
		{90, nil},
	} {
		checkExpire(t, hs, r.tick, r.want)
		for _, half := range []int{0, 6, 10} {
			checkNoTake(t, hs, half, r.tick)
			checkAdd(t, hs, halfOf(half, 91), 8, r.tick, r.want)
		}
		for _, h := range hs {
			at := slices.Index(r.want, h)
			if at < 0 {
				checkNoTake(t, hs, h.Half, r.tick)
				continue
			}
			checkTake(t, hs, h.Half, r.tick, h, without(r.want, at))
		}
	}
	// What is added stands behind the others, be its number and its Until above theirs or below.
	for _, h := range []api.Half{halfOf(0, 41), halfOf(0, 99), halfOf(99, 41), halfOf(99, 99), halfOf(4, 60)} {
		checkAdd(t, hs, h, 8, 40, without(hs, 1))
		checkAdd(t, hs, h, 8, 39, hs)
	}
}

// P18.1: each most that may be, and those that may not: of empty rows, and rows with room and without.
func TestMosts(t *testing.T) {
	h := halfOf(60, 51)
	for most := 1; most <= 8; most++ {
		checkAdd(t, nil, h, most, 50, nil)
		checkAdd(t, many(0, 9, 50), h, most, 50, nil)
		for n := range 20 {
			if n < most {
				checkAdd(t, many(0, n, 51), h, most, 50, many(0, n, 51))
			} else {
				checkNoAdd(t, many(0, n, 51), h, most, 50, api.ErrHalfFull)
			}
		}
		checkNoAdd(t, nil, halfOf(60, 50), most, 50, api.ErrHalfForm)
		checkNoAdd(t, nil, halfOf(60, 49), most, 50, api.ErrHalfForm)
	}
	for _, most := range noMosts {
		for n := range 12 {
			checkNoAdd(t, many(0, n, 51), h, most, 50, api.ErrHalfForm)
			checkNoAdd(t, many(0, n, 50), h, most, 50, api.ErrHalfForm)
		}
	}
}

// P18.1: rows with one less than most that wait, most of them, and more, and others between them that are over: these count no more.
func TestFull(t *testing.T) {
	h := halfOf(99, 80)
	for most := 1; most <= 8; most++ {
		for _, n := range []int{most - 1, most, most + 1, most + 2, 2 * most, 40} {
			for _, gone := range []int{0, 1, most, 30} {
				for _, at := range []int{0, n / 2, n} {
					live := many(0, n, 51)
					hs := slices.Concat(live[:at], many(200, gone, 50), live[at:])
					if n < most {
						checkAdd(t, hs, h, most, 50, live)
					} else {
						checkNoAdd(t, hs, h, most, 50, api.ErrHalfFull)
					}
					// A tick later all of it is over.
					checkAdd(t, hs, h, most, 51, nil)
				}
			}
		}
	}
	// More than MaxHalves that wait are told and taken all the same: only Add asks how many there are.
	for _, n := range []int{8, 9, 17, 100} {
		live := many(0, n, 51)
		checkExpire(t, live, 50, live)
		for _, at := range places(n) {
			checkTake(t, live, at, 50, live[at], without(live, at))
		}
	}
}

// P18.1: rows of any length of which all is over take one more.
func TestAllOver(t *testing.T) {
	for _, n := range []int{1, 2, 7, 8, 9, 100, 100000} {
		for _, until := range []int{math.MinInt, -1, 0, 49, 50} {
			hs := many(0, n, until)
			for _, most := range []int{1, 8} {
				got, e := Add(hs, halfOf(7, 51), most, 50)
				if !slices.Equal(got, rowOf(7, 51)) || e != api.OK {
					t.Errorf("Add to %d that are over at %d: %v, %d", n, until, got, e)
				}
			}
			if got := Expire(hs, 50); len(got) != 0 {
				t.Errorf("Expire of %d that are over at %d: %d", n, until, len(got))
			}
			for _, half := range []int{0, n / 2, n - 1, n} {
				if h, rest, e := Take(hs, half, 50); h != (api.Half{}) || len(rest) != 0 || e != api.ErrHalfNone {
					t.Errorf("Take of %d that are over at %d: %v, %d, %d", n, until, h, len(rest), e)
				}
			}
			if !slices.Equal(hs, many(0, n, until)) {
				t.Errorf("a row of %d that are over at %d is another one now", n, until)
			}
		}
	}
}

// P18.1: a row of many that wait: what may be asked ends in a time that its length explains.
func TestLong(t *testing.T) {
	const n = 1 << 18
	hs := many(0, n, 51)
	for k := range n / 2 {
		hs[2*k].Until = 50
	}
	live := Expire(hs, 50)
	if len(live) != n/2 || live[0] != hs[1] || live[n/2-1] != hs[n-1] {
		t.Errorf("Expire of %d: %d", n, len(live))
	}
	for _, half := range []int{1, n/2 + 1, n - 1} {
		h, rest, e := Take(hs, half, 50)
		if h != hs[half] || !slices.Equal(rest, without(live, half/2)) || e != api.OK {
			t.Errorf("Take of %d of %d: %v, %d, %d", half, n, h, len(rest), e)
		}
	}
	for _, half := range []int{-1, 0, n / 2, n} {
		if h, rest, e := Take(hs, half, 50); h != (api.Half{}) || len(rest) != 0 || e != api.ErrHalfNone {
			t.Errorf("Take of %d of %d: %v, %d, %d", half, n, h, len(rest), e)
		}
	}
	if got, e := Add(hs, halfOf(0, 51), 8, 50); len(got) != 0 || e != api.ErrHalfFull {
		t.Errorf("Add to %d: %d, %d", n, len(got), e)
	}
}

// P18.1: Take of each place of a row, and of numbers that nobody has.
func TestTake(t *testing.T) {
	for n := 1; n <= 12; n++ {
		for _, first := range []int{0, 1, -5, api.MaxNum - 4, math.MinInt, 1 << 32} {
			live := many(first, n, 51)
			for at := range n {
				checkTake(t, live, first+at, 50, live[at], without(live, at))
				// It is there, but over.
				hs := slices.Clone(live)
				hs[at].Until = 50
				checkNoTake(t, hs, first+at, 50)
				checkTake(t, hs, first+at, 49, hs[at], without(live, at))
				for k := range n {
					if k != at {
						rest := slices.DeleteFunc(slices.Clone(live), func(h api.Half) bool { return h.Half == first+at || h.Half == first+k })
						checkTake(t, hs, first+k, 50, live[k], rest)
					}
				}
			}
			checkNoTake(t, live, first-1, 50)
			checkNoTake(t, live, first+n, 50)
			for _, half := range numbers {
				if half < first || half >= first+n {
					checkNoTake(t, live, half, 50)
				}
			}
		}
	}
}

// P18.1: a half is asked for by its Half alone, not by its place or another of its numbers.
func TestByHalf(t *testing.T) {
	hs := []api.Half{
		{Half: 5, User: 1, Client: 2, Server: 3, Until: 60},
		{Half: 1, User: 5, Client: 7, Server: 8, Until: 61},
		{Half: 9, User: 6, Client: 5, Server: 4, Until: 62},
		{Half: 7, User: 4, Client: 9, Server: 5, Until: 63},
	}
	for at, h := range hs {
		checkTake(t, hs, h.Half, 50, h, without(hs, at))
	}
	for _, half := range []int{0, 2, 3, 4, 6, 8, 60, 61, 62, 63} {
		checkNoTake(t, hs, half, 50)
	}
}

// P18.1: a row that holds one Half twice: the first of them that waits is taken, and the other stays.
func TestTwice(t *testing.T) {
	one, two := halfOf(4, 60), halfOf(4, 70)
	two.User, two.Client, two.Server = 7, 8, 9
	for n := range 6 {
		others := many(20, n, 80)
		for at := range n + 1 {
			for behind := at; behind <= n; behind++ {
				single := with(others, behind, two)
				hs := with(single, at, one)
				checkTake(t, hs, 4, 50, one, single)
				checkTake(t, hs, 4, 59, one, single)
				checkTake(t, hs, 4, 60, two, others)
				checkTake(t, hs, 4, 69, two, others)
				checkNoTake(t, hs, 4, 70)
				checkTake(t, single, 4, 50, two, others)
				// The other way round the second one is over ahead of the first.
				hs = with(with(others, behind, one), at, two)
				checkTake(t, hs, 4, 59, two, with(others, behind, one))
				checkTake(t, hs, 4, 60, two, others)
				checkNoTake(t, hs, 4, 70)
			}
		}
	}
	// The same one, all its numbers alike.
	checkTake(t, []api.Half{one, one, one}, 4, 50, one, []api.Half{one, one})
	checkTake(t, []api.Half{two, one, two}, 4, 50, two, []api.Half{one, two})
	checkTake(t, []api.Half{one, two, one}, 4, 60, two, nil)
	checkAdd(t, []api.Half{one}, one, 2, 50, []api.Half{one})
	checkAdd(t, []api.Half{one, two}, two, 2, 60, []api.Half{two})
	checkNoAdd(t, []api.Half{one, one}, one, 2, 50, api.ErrHalfFull)
	checkNoAdd(t, []api.Half{one, two}, two, 1, 60, api.ErrHalfFull)
	checkNoAdd(t, []api.Half{one, two}, one, 2, 60, api.ErrHalfForm)
}

// P18.1: of a half nothing is asked but its Until, and all its numbers are told as they were.
func TestAnyHalf(t *testing.T) {
	for i, x := range numbers {
		for j, y := range numbers {
			h := api.Half{Half: x, User: y, Client: numbers[(i+j)%len(numbers)], Server: numbers[(i+2*j)%len(numbers)], Until: 51}
			checkAdd(t, rowOf(60, 51, 50, 52), h, 3, 50, []api.Half{halfOf(60, 51), halfOf(62, 52)})
			hs := []api.Half{halfOf(60, 51), h, halfOf(62, 52)}
			checkExpire(t, hs, 50, hs)
			checkExpire(t, hs, 51, hs[2:])
			checkTake(t, hs, x, 50, h, without(hs, 1))
			checkNoTake(t, hs, x, 51)
		}
	}
}

// P18.1 with R6: a most or an Until that may not be is told ahead of a row that is full, as are both.
func TestSeveral(t *testing.T) {
	rows := [][]api.Half{nil, many(0, 1, 51), many(0, 8, 51), many(0, 9, 51), many(0, 30, 51), many(0, 30, 50)}
	for _, hs := range rows {
		for _, most := range noMosts {
			for _, until := range []int{math.MinInt, 0, 49, 50, 51, 52, math.MaxInt} {
				checkNoAdd(t, hs, halfOf(60, until), most, 50, api.ErrHalfForm)
			}
		}
		for most := 1; most <= 8; most++ {
			for _, until := range []int{math.MinInt, -1, 0, 49, 50} {
				checkNoAdd(t, hs, halfOf(60, until), most, 50, api.ErrHalfForm)
			}
			if len(readExpire(hs, 50)) >= most {
				checkNoAdd(t, hs, halfOf(60, 51), most, 50, api.ErrHalfFull)
			}
		}
	}
}

// P18.1 with R4: answers of one row, kept side by side, share nothing with each other, nor with it.
func TestOwnMemory(t *testing.T) {
	for n := range 10 {
		for gone := range 4 {
			for at := range n + 1 {
				live := many(0, n, 60)
				hs := slices.Concat(live[:at], many(90, gone, 50), live[at:])
				p := roomyOf(hs)
				answers := [][]api.Half{Expire(p.hs, 50), Expire(p.hs, 60)}
				for half := range n + 1 {
					_, rest, _ := Take(p.hs, half, 50)
					answers = append(answers, rest)
				}
				for most := range 9 {
					more, _ := Add(p.hs, halfOf(70, 61), most, 50)
					answers = append(answers, more)
				}
				answers = append(answers, Expire(p.hs, 50))
				checkOwn(t, "a row of calls", p, hs, answers...)
			}
		}
	}
}

// P18.1 with R4: an answer that is handed in again stays as it was, its spare room too.
func TestAnswersHandedIn(t *testing.T) {
	hs := []api.Half{}
	for k := range 8 {
		next, e := Add(hs, halfOf(k, 60+k), 8, 50)
		if e != api.OK {
			t.Fatalf("Add(%v): %d", hs, e)
		}
		room := slices.Clone(next[:cap(next)])
		one, _ := Add(next, halfOf(30, 90), 8, 50)
		two, _ := Add(next, halfOf(31, 91), 8, 50)
		_, rest, _ := Take(next, k, 50)
		if k < 7 && (!slices.Equal(one, with(next, k+1, halfOf(30, 90))) || !slices.Equal(two, with(next, k+1, halfOf(31, 91)))) {
			t.Fatalf("Add twice to %v: %v and %v", next, one, two)
		}
		if !slices.Equal(next[:cap(next)], room) || !slices.Equal(rest, next[:k]) {
			t.Fatalf("%v is %v now, without its last one: %v", room, next[:cap(next)], rest)
		}
		hs = next
	}
	if want := rowOf(0, 60, 61, 62, 63, 64, 65, 66, 67); !slices.Equal(hs, want) {
		t.Errorf("%v, want %v", hs, want)
	}
}

// P18.1: every row of up to four halves of a few kinds, and each call of them.
func TestEveryRow(t *testing.T) {
	kinds := []api.Half{}
	for half := range 2 {
		for until := 4; until < 8; until++ {
			kinds = append(kinds, api.Half{Half: half, User: len(kinds), Until: until})
		}
	}
	row := [][]api.Half{nil}
	for n := range 5 {
		longer := [][]api.Half{}
		for k, hs := range row {
			for tick := 3; tick < 9; tick++ {
				checkRead(t, hs, halfOf(9, 4+k%5), k%6, k%3, tick)
				for most := -1; n < 3 && most < 10; most++ {
					for half := -1; half < 3; half++ {
						for until := 3; until < 9; until++ {
							checkRead(t, hs, halfOf(9, until), most, half, tick)
						}
					}
				}
			}
			for _, h := range kinds {
				longer = append(longer, append(slices.Clone(hs), h))
			}
		}
		row = longer
	}
}

// P18.1: rows of any halves, with numbers that may not be among them.
func TestRandom(t *testing.T) {
	r := rand.New(rand.NewSource(18))
	pick := func(least, n, odds int) int {
		if r.Intn(odds) == 0 {
			return numbers[r.Intn(len(numbers))]
		}
		return least + r.Intn(n)
	}
	for range 100000 {
		hs := make([]api.Half, r.Intn(14))
		for k := range hs {
			hs[k] = api.Half{Half: pick(0, 12, 40), User: r.Intn(8), Client: r.Intn(99), Server: r.Intn(99), Until: pick(-3, 30, 40)}
		}
		h := api.Half{Half: pick(0, 12, 40), User: r.Intn(8), Client: r.Intn(99), Server: r.Intn(99), Until: pick(-3, 30, 40)}
		most := pick(1, 8, 40)
		if r.Intn(20) == 0 {
			most = noMosts[r.Intn(len(noMosts))]
		}
		checkRead(t, hs, h, most, pick(0, 12, 40), pick(-3, 30, 40))
	}
}

// reader keeps each login that was opened and not taken, by its number: they were opened in the row of their numbers.
type reader struct {
	open map[int]api.Half
	hs   []api.Half
}

// waiting are the reader's logins whose time is not over.
func (x *reader) waiting(tick int) []api.Half {
	out := []api.Half{}
	for _, k := range slices.Sorted(maps.Keys(x.open)) {
		if tick < x.open[k].Until {
			out = append(out, x.open[k])
		}
	}
	return out
}

// add opens a login, if it may.
func (x *reader) add(t *testing.T, h api.Half, most, tick int) {
	t.Helper()
	n := len(x.waiting(tick))
	got, e := Add(x.hs, h, most, tick)
	want := api.OK
	if n >= most {
		want = api.ErrHalfFull
	}
	if most < 1 || most > 8 || h.Until <= tick {
		want = api.ErrHalfForm
	}
	if e != want || e != api.OK && len(got) != 0 {
		t.Fatalf("Add(%v, %v, %d, %d): %v, %d, want %d", x.hs, h, most, tick, got, e, want)
	}
	if e == api.OK {
		x.open[h.Half], x.hs = h, got
	}
}

// take takes a login, if it waits.
func (x *reader) take(t *testing.T, half, tick int) {
	t.Helper()
	h, rest, e := Take(x.hs, half, tick)
	want, is := x.open[half]
	if !is || want.Until <= tick {
		if h != (api.Half{}) || len(rest) != 0 || e != api.ErrHalfNone {
			t.Fatalf("Take(%v, %d, %d): %v, %v, %d, want ErrHalfNone", x.hs, half, tick, h, rest, e)
		}
		return
	}
	if h != want || e != api.OK {
		t.Fatalf("Take(%v, %d, %d): %v, %d, want %v", x.hs, half, tick, h, e, want)
	}
	delete(x.open, half)
	x.hs = rest
}

// P18.1: rows of calls at rising ticks, held against a reader that keeps each login that was
// opened; only now and then are those that are over cut from the row.
func TestRows(t *testing.T) {
	r := rand.New(rand.NewSource(6))
	for range 1500 {
		x := reader{map[int]api.Half{}, nil}
		most, life, tick, next := 1+r.Intn(8), 1+r.Intn(40), r.Intn(60)-20, 0
		for range 120 {
			tick += r.Intn(4)
			switch r.Intn(6) {
			case 0, 1, 2:
				h := halfOf(next, tick+1+r.Intn(life))
				if r.Intn(9) == 0 {
					h.Until = tick - r.Intn(2)
				}
				x.add(t, h, most, tick)
				next++
			case 3, 4:
				x.take(t, next-r.Intn(14), tick)
			case 5:
				x.hs = Expire(x.hs, tick)
			}
			if got, want := Expire(x.hs, tick), x.waiting(tick); !slices.Equal(got, want) {
				t.Fatalf("Expire(%v, %d): %v, want %v", x.hs, tick, got, want)
			}
			if n := len(x.waiting(tick)); n > most {
				t.Fatalf("%d wait at %d, at most %d may", n, tick, most)
			}
		}
	}
}

// P18.1: a row of calls, told one by one.
func TestRowTold(t *testing.T) {
	a, b, c, d := halfOf(0, 30), halfOf(1, 35), halfOf(2, 40), halfOf(3, 41)
	hs, e := Add(nil, a, 2, 10)
	if !slices.Equal(hs, []api.Half{a}) || e != api.OK {
		t.Fatalf("Add: %v, %d", hs, e)
	}
	hs, e = Add(hs, b, 2, 15)
	if !slices.Equal(hs, []api.Half{a, b}) || e != api.OK {
		t.Fatalf("Add: %v, %d", hs, e)
	}
	checkNoAdd(t, hs, c, 2, 20, api.ErrHalfFull)
	checkNoAdd(t, hs, c, 2, 29, api.ErrHalfFull)
	checkNoAdd(t, hs, c, 2, 40, api.ErrHalfForm)
	hs, e = Add(hs, c, 2, 30)
	if !slices.Equal(hs, []api.Half{b, c}) || e != api.OK {
		t.Fatalf("Add: %v, %d", hs, e)
	}
	checkNoTake(t, hs, 0, 30)
	checkNoTake(t, hs, 3, 30)
	h, hs, e := Take(hs, 1, 34)
	if h != b || !slices.Equal(hs, []api.Half{c}) || e != api.OK {
		t.Fatalf("Take: %v, %v, %d", h, hs, e)
	}
	checkNoTake(t, hs, 1, 34)
	checkAdd(t, hs, d, 2, 34, []api.Half{c})
	checkNoAdd(t, hs, d, 1, 39, api.ErrHalfFull)
	checkAdd(t, hs, d, 1, 40, nil)
	checkTake(t, hs, 2, 39, c, nil)
	checkNoTake(t, hs, 2, 40)
	checkExpire(t, hs, 39, []api.Half{c})
	checkExpire(t, hs, 40, nil)
}

// P18.1 with R5: several goroutines at one time, over one row.
func TestAtOneTime(t *testing.T) {
	hs := rowOf(0, 60, 50, 61, 62, 40, 63)
	was, live := slices.Clone(hs), without(without(hs, 4), 1)
	var all sync.WaitGroup
	for k := range 16 {
		all.Go(func() {
			for range 500 {
				at := k % 4
				if got := Expire(hs, 50); !slices.Equal(got, live) {
					t.Errorf("Expire: %v, want %v", got, live)
				}
				if got, e := Add(hs, halfOf(20+k, 70), 5, 50); !slices.Equal(got, with(live, 4, halfOf(20+k, 70))) || e != api.OK {
					t.Errorf("Add of %d: %v, %d", 20+k, got, e)
				}
				if h, rest, e := Take(hs, live[at].Half, 50); h != live[at] || !slices.Equal(rest, without(live, at)) || e != api.OK {
					t.Errorf("Take of %d: %v, %v, %d", live[at].Half, h, rest, e)
				}
			}
		})
	}
	all.Wait()
	if !slices.Equal(hs, was) {
		t.Errorf("%v is %v now", was, hs)
	}
}
