package state

import (
	"math"
	"math/rand"
	"slices"
	"sync"
	"testing"

	"bastion/api"
)

// outside are no numbers that the document counts by; the last ones of either side, cut to fewer bits, would be.
var (
	below = []int{-1, -2, -8, -256, -api.MaxNum, math.MinInt32, -1 << 32, -1<<32 + 1, -1<<32 + 3, math.MinInt, math.MinInt + 1, math.MinInt + 3}
	above = []int{api.MaxNum + 1, math.MaxInt32, math.MaxInt32 + 1, 1 << 32, 1<<32 + 1, 1<<32 + 3, math.MaxInt - 1, math.MaxInt}
)

// spares are what stands ahead of the lists of a state and in their spare room; over is what a test writes over an answer.
var (
	spareUser    = api.User{User: 3, Key: -7, Secret: 77, Quota: -8, Used: 78, Lock: api.Lock{Fails: -9, Until: 79}, Step: 80, Gen: -81}
	spareSession = api.Session{Session: -41, User: 3, Address: 77, Start: -42}
	spareAddress = api.Address{Busy: true, Last: 77, Until: -5}
)

const spareSpent = -43

// setup is a config in which no two numbers are alike, but for Sectors.
func setup() api.Config {
	return api.Config{Sectors: 60, Halves: 5, Sessions: 3, Addresses: 4, Fails: 2, Lockout: 40, HalfLife: 10, Idle: 50, Absolute: 200, Quarantine: 25, TicketLife: 300, Keep: 1}
}

// number is one of a config's, with its limits.
type number struct {
	name        string
	of          func(c *api.Config) *int
	least, most int
}

func numbersOfConfig() []number {
	return []number{
		{"Sectors", func(c *api.Config) *int { return &c.Sectors }, 3, api.MaxSectors},
		{"Halves", func(c *api.Config) *int { return &c.Halves }, 1, api.MaxHalves},
		{"Sessions", func(c *api.Config) *int { return &c.Sessions }, 1, api.MaxSessions},
		{"Addresses", func(c *api.Config) *int { return &c.Addresses }, 1, api.MaxAddresses},
		{"Fails", func(c *api.Config) *int { return &c.Fails }, 1, api.MaxFails},
		{"Lockout", func(c *api.Config) *int { return &c.Lockout }, 1, api.MaxLife},
		{"HalfLife", func(c *api.Config) *int { return &c.HalfLife }, 1, api.MaxLife},
		{"Idle", func(c *api.Config) *int { return &c.Idle }, 1, api.MaxLife},
		{"Absolute", func(c *api.Config) *int { return &c.Absolute }, 1, api.MaxLife},
		{"Quarantine", func(c *api.Config) *int { return &c.Quarantine }, 1, api.MaxLife},
		{"TicketLife", func(c *api.Config) *int { return &c.TicketLife }, 1, api.MaxLife},
		{"Keep", func(c *api.Config) *int { return &c.Keep }, 0, api.MaxKeep},
	}
}

// configs are that one, one with each number at its least, and one with each at its greatest.
func configs() []api.Config {
	var least, most api.Config
	for _, n := range numbersOfConfig() {
		*n.of(&least), *n.of(&most) = n.least, n.most
	}
	return []api.Config{setup(), least, most}
}

// The events, by kind.
func boot(tick int) api.Event { return api.Event{Kind: api.EvBoot, Tick: tick} }
func enroll(user, key, secret, quota int) api.Event {
	return api.Event{Kind: api.EvUser, User: user, A: key, B: secret, C: quota}
}
func fail(user, tick int) api.Event { return api.Event{Kind: api.EvFail, User: user, Tick: tick} }
func pass(user, step int) api.Event { return api.Event{Kind: api.EvPass, User: user, A: step} }
func unlock(user int) api.Event     { return api.Event{Kind: api.EvUnlock, User: user} }
func lease(session, user, address, tick int) api.Event {
	return api.Event{Kind: api.EvLease, Session: session, User: user, Address: address, Tick: tick}
}
func end(session, bytes, reason, tick int) api.Event {
	return api.Event{Kind: api.EvClose, Session: session, A: bytes, B: reason, Tick: tick}
}
func revoke(user int) api.Event   { return api.Event{Kind: api.EvRevoke, User: user} }
func rotate() api.Event           { return api.Event{Kind: api.EvRotate} }
func spend(session int) api.Event { return api.Event{Kind: api.EvSpend, Session: session} }

// state is one in which every event has something to turn, and no two numbers that it might take for each other are alike.
func state() api.State {
	return api.State{
		Boots: 5, Epoch: 6, Next: 40,
		Users: []api.User{
			{User: 1, Key: 11, Secret: 12, Quota: 13, Used: 14, Lock: api.Lock{Until: 20}, Step: 15, Gen: 16},
			{User: 4, Key: 41, Secret: 42, Quota: 43, Used: 44, Lock: api.Lock{Fails: 1, Until: 30}, Step: 45, Gen: 46},
			{User: 6, Key: 61, Secret: 62, Quota: 63, Used: 64, Lock: api.Lock{Fails: 2, Until: 50}, Step: 65, Gen: 66},
		},
		Sessions:  []api.Session{{Session: 31, User: 4, Address: 2, Start: 9}, {Session: 33, User: 1, Address: 0, Start: 8}},
		Addresses: []api.Address{{Busy: true, Last: 1}, {Last: 3, Until: 70}, {Busy: true, Last: 4}, {Last: -1}},
		Spent:     []int{9, 2, 30},
	}
}

// eventsOf are one of each kind that state takes, by its kind.
func eventsOf() []api.Event {
	return []api.Event{boot(50), enroll(5, 51, 52, 53), fail(4, 30), pass(4, 46), unlock(6), lease(40, 6, 1, 55), end(31, 7, api.WhyIdle, 60), revoke(1), rotate(), spend(31)}
}

func copyOf(s api.State) api.State {
	s.Users, s.Sessions, s.Addresses, s.Spent = slices.Concat(s.Users), slices.Concat(s.Sessions), slices.Concat(s.Addresses), slices.Concat(s.Spent)
	return s
}

// with is a state with a change, in memory of its own.
func with(s api.State, change func(s *api.State)) api.State {
	s = copyOf(s)
	change(&s)
	return s
}

func same(a, b api.State) bool {
	return a.Boots == b.Boots && a.Epoch == b.Epoch && a.Next == b.Next && slices.Equal(a.Users, b.Users) && slices.Equal(a.Sessions, b.Sessions) && slices.Equal(a.Addresses, b.Addresses) && slices.Equal(a.Spent, b.Spent)
}

// roomy is a state, and all of the memory of its lists: what is ahead of them and the spare room behind them, too.
type roomy struct {
	s, all api.State
}

func room[T any](xs []T, spare T) ([]T, []T) {
	all := slices.Concat([]T{spare}, xs, []T{spare, spare})
	return all[1 : 1+len(xs)], all
}

func roomyOf(s api.State) roomy {
	p := roomy{s, s}
	p.s.Users, p.all.Users = room(s.Users, spareUser)
	p.s.Sessions, p.all.Sessions = room(s.Sessions, spareSession)
	p.s.Addresses, p.all.Addresses = room(s.Addresses, spareAddress)
	p.s.Spent, p.all.Spent = room(s.Spent, spareSpent)
	return p
}

// wide is a state whose lists hold their spare room, too.
func wide(s api.State) api.State {
	s.Users, s.Sessions, s.Addresses, s.Spent = s.Users[:cap(s.Users)], s.Sessions[:cap(s.Sessions)], s.Addresses[:cap(s.Addresses)], s.Spent[:cap(s.Spent)]
	return s
}

// scrawl writes over all of a state's lists.
func scrawl(s api.State) {
	for k := range s.Users {
		s.Users[k] = api.User{User: -101 - k}
	}
	for k := range s.Sessions {
		s.Sessions[k] = api.Session{Session: -102 - k}
	}
	for k := range s.Addresses {
		s.Addresses[k] = api.Address{Last: -103 - k}
	}
	for k := range s.Spent {
		s.Spent[k] = -104 - k
	}
}

// checkOwn tells that a call left a state as it was, and what is about its lists, and that
// each of its answers has memory of its own: what is written over one of them and its spare
// room changes neither the state nor another answer (R4).
func checkOwn(t *testing.T, call string, p roomy, was api.State, answers ...api.State) {
	t.Helper()
	want := roomyOf(was).all
	if !same(p.all, want) {
		t.Fatalf("%s: %v is %v now", call, want, p.all)
	}
	wants := []api.State{}
	for _, got := range answers {
		wants = append(wants, copyOf(wide(got)))
	}
	for k, got := range answers {
		scrawl(wide(got))
		if !same(p.all, want) {
			t.Fatalf("%s: a change of its answer made %v of %v", call, p.all, want)
		}
		for i := k + 1; i < len(answers); i++ {
			if !same(wide(answers[i]), wants[i]) {
				t.Fatalf("%s: a change of one answer made another %v, want %v", call, wide(answers[i]), wants[i])
			}
		}
	}
}

// check tells what comes of an event, twice (R5).
func check(t *testing.T, c api.Config, s api.State, e api.Event, want api.State) {
	t.Helper()
	p := roomyOf(s)
	one, f := Apply(c, p.s, e)
	two, g := Apply(c, p.s, e)
	if !same(one, want) || !same(two, want) || f != api.OK || g != api.OK {
		t.Errorf("Apply(%v, %v): %v, %d and %v, %d, want %v", s, e, one, f, two, g, want)
	}
	checkOwn(t, "Apply", p, s, one, two)
}

// checkTurn tells that an event makes that change of a state, and no other.
func checkTurn(t *testing.T, c api.Config, s api.State, e api.Event, change func(s *api.State)) {
	t.Helper()
	check(t, c, s, e, with(s, change))
}

// checkNo tells that an event is refused, with nothing beside the error (R2).
func checkNo(t *testing.T, c api.Config, s api.State, e api.Event, want api.Errno) {
	t.Helper()
	p := roomyOf(s)
	for range 2 {
		if got, f := Apply(c, p.s, e); !same(got, api.State{}) || f != want {
			t.Errorf("Apply(%v, %v, %v): %v, %d, want %d", c, s, e, got, f, want)
		}
	}
	checkOwn(t, "Apply", p, s)
}

// checkAll tells what comes of a row of events, or which error, twice.
func checkAll(t *testing.T, c api.Config, es []api.Event, want api.State, wantNo api.Errno) {
	t.Helper()
	all := slices.Concat(es, []api.Event{rotate(), {Kind: -1}})
	one, e := All(c, all[:len(es)]...)
	two, f := All(c, all[:len(es)]...)
	if !same(one, want) || !same(two, want) || e != wantNo || f != wantNo {
		t.Errorf("All(%v, %v): %v, %d and %v, %d, want %v, %d", c, es, one, e, two, f, want, wantNo)
	}
	checkOwn(t, "All", roomyOf(api.State{}), api.State{}, one, two)
	if !slices.Equal(all, slices.Concat(es, []api.Event{rotate(), {Kind: -1}})) {
		t.Errorf("All: %v is %v now", es, all)
	}
}

// empty is the state ahead of all events.
func empty(addresses int) api.State {
	as := []api.Address{}
	for range addresses {
		as = append(as, api.Address{Last: -1})
	}
	return api.State{Addresses: as}
}

// readConfig is which config may be, by the words of chapter 21.
func readConfig(c api.Config) bool {
	for _, n := range numbersOfConfig() {
		if x := *n.of(&c); x < n.least || n.most < x {
			return false
		}
	}
	return true
}

// readEvent is which event may be, by the words of chapter 7: it is one that is made of its kind's parts.
func readEvent(e api.Event) bool {
	if e.Kind < 0 || e.Kind > 9 {
		return false
	}
	made := []api.Event{boot(e.Tick), enroll(e.User, e.A, e.B, e.C), fail(e.User, e.Tick), pass(e.User, e.A), unlock(e.User), lease(e.Session, e.User, e.Address, e.Tick), end(e.Session, e.A, e.B, e.Tick), revoke(e.User), rotate(), spend(e.Session)}
	for _, x := range []int{e.User, e.Session, e.Address, e.A, e.B, e.C, e.Tick} {
		if x < 0 || x > 1073741823 {
			return false
		}
	}
	return e == made[e.Kind] && e.User < 8 && e.Address < 16 && e.Tick <= 1048575 && e.C <= 1048576 && (e.Kind != api.EvClose || e.B <= 4)
}

// readPool is which pool may be, by the words of chapter 16.
func readPool(as []api.Address) bool {
	ok := len(as) >= 1 && len(as) <= 16
	for _, a := range as {
		ok = ok && a.Last >= -1 && a.Last <= 7 && a.Until >= 0
	}
	return ok
}

// readFree is chapter 16's Free.
func readFree(as []api.Address, address, until int) bool {
	if !readPool(as) || address < 0 || address >= len(as) || !as[address].Busy || until < 0 {
		return false
	}
	as[address].Busy, as[address].Until = false, until
	return true
}

// readFail is chapter 13's Fail of a tick, a most and a lockout that may be.
func readFail(k *api.Lock, tick, most, lockout int) bool {
	if k.Fails < 0 || k.Fails > 8 || k.Until < 0 || k.Until > 1048575+65536 || tick < k.Until {
		return false
	}
	if k.Fails >= most {
		k.Fails = 0
	}
	k.Fails++
	if k.Fails == most {
		k.Until = tick + lockout
	}
	return true
}

// readUser is what the table says of an event of a user that is there.
func readUser(c api.Config, u *api.User, e api.Event) bool {
	ok := true
	if e.Kind == api.EvFail {
		return readFail(&u.Lock, e.Tick, c.Fails, c.Lockout)
	}
	if e.Kind == api.EvPass {
		ok = u.Step < e.A
		u.Step = e.A
	}
	if e.Kind == api.EvPass || e.Kind == api.EvUnlock {
		u.Lock.Fails, u.Lock.Until = 0, 0
	}
	if e.Kind == api.EvRevoke {
		ok = u.Gen >= 0 && u.Gen < 1073741823
		u.Gen++
	}
	return ok
}

// readEnd is what the table says of a session's end.
func readEnd(n *api.State, e api.Event) bool {
	for k, x := range n.Sessions {
		if x.Session != e.Session {
			continue
		}
		for j := range n.Users {
			if n.Users[j].User == x.User {
				n.Users[j].Used = min(n.Users[j].Used, 1073741823) + e.A
				n.Users[j].Used = min(n.Users[j].Used, 1073741823)
				break
			}
		}
		n.Sessions = slices.Concat(n.Sessions[:k], n.Sessions[k+1:])
		return readFree(n.Addresses, x.Address, e.Tick)
	}
	return false
}

// readLease is what the table says of a lease.
func readLease(c api.Config, n *api.State, e api.Event, isUser bool) bool {
	if e.Session != n.Next || !isUser || e.Address >= len(n.Addresses) || n.Addresses[e.Address].Busy || len(n.Sessions) >= c.Sessions || !readPool(n.Addresses) {
		return false
	}
	n.Sessions = append(n.Sessions, api.Session{Session: e.Session, User: e.User, Address: e.Address, Start: e.Tick})
	n.Addresses[e.Address] = api.Address{Busy: true, Last: e.User}
	n.Next++
	return true
}

// readBoot is what the table says of a boot.
func readBoot(c api.Config, n *api.State, e api.Event) bool {
	ok := n.Boots >= 0 && n.Boots < 1073741823
	n.Boots++
	for _, x := range n.Sessions {
		ok = readFree(n.Addresses, x.Address, e.Tick+c.Quarantine) && ok
	}
	n.Sessions = nil
	return ok
}

// readTurn turns a state by the table's words, and tells whether what the table asks is so.
func readTurn(c api.Config, n *api.State, e api.Event) bool {
	at := 0
	for at < len(n.Users) && n.Users[at].User != e.User {
		at++
	}
	isUser := at < len(n.Users)
	switch e.Kind {
	case api.EvBoot:
		return readBoot(c, n, e)
	case api.EvUser:
		at = 0
		for at < len(n.Users) && n.Users[at].User <= e.User {
			at++
		}
		n.Users = slices.Concat(n.Users[:at], []api.User{{User: e.User, Key: e.A, Secret: e.B, Quota: e.C}}, n.Users[at:])
		return !isUser
	case api.EvLease:
		return readLease(c, n, e, isUser)
	case api.EvClose:
		return readEnd(n, e)
	case api.EvRotate:
		n.Epoch++
		return n.Epoch <= 1073741823 && n.Epoch != math.MinInt
	case api.EvSpend:
		n.Spent = append(n.Spent, e.Session)
		return slices.Index(n.Spent, e.Session) == len(n.Spent)-1
	}
	return isUser && readUser(c, &n.Users[at], e)
}

// readApply is Apply by the chapter's words.
func readApply(c api.Config, s api.State, e api.Event) (api.State, api.Errno) {
	if !readConfig(c) || !readEvent(e) || len(s.Addresses) != c.Addresses {
		return api.State{}, 2000
	}
	n := copyOf(s)
	if !readTurn(c, &n, e) {
		return api.State{}, 2001
	}
	return n, 0
}

// checkRead tells that Apply answers what the plain reader does, in memory of its own.
func checkRead(t *testing.T, c api.Config, s api.State, e api.Event) (api.State, api.Errno) {
	t.Helper()
	p := roomyOf(s)
	got, f := Apply(c, p.s, e)
	want, g := readApply(c, s, e)
	if !same(got, want) || f != g {
		t.Fatalf("Apply(%v, %v, %v): %v, %d, want %v, %d", c, s, e, got, f, want, g)
	}
	checkOwn(t, "Apply", p, s, got)
	return want, g
}

// P20.1: New of each number of addresses that may be, and of those that may not.
func TestNew(t *testing.T) {
	for n := 1; n <= 16; n++ {
		one, e := New(n)
		two, f := New(n)
		if want := empty(n); !same(one, want) || !same(two, want) || e != api.OK || f != api.OK {
			t.Errorf("New(%d): %v, %d and %v, %d, want %v", n, one, e, two, f, want)
		}
		checkOwn(t, "New", roomyOf(api.State{}), api.State{}, one, two)
	}
	for _, n := range slices.Concat([]int{0, 17, 18, 31, 32, 255, 256, 257, api.MaxNum}, below, above) {
		if got, e := New(n); !same(got, api.State{}) || e != api.ErrStateForm {
			t.Errorf("New(%d): %v, %d", n, got, e)
		}
	}
}

// P20.2: what each kind turns, and nothing else.
func TestKinds(t *testing.T) {
	c, s := setup(), state()
	checkTurn(t, c, s, boot(50), func(s *api.State) {
		s.Boots, s.Sessions = 6, nil
		s.Addresses[0], s.Addresses[2] = api.Address{Last: 1, Until: 75}, api.Address{Last: 4, Until: 75}
	})
	checkTurn(t, c, s, enroll(5, 51, 52, 53), func(s *api.State) {
		s.Users = slices.Insert(s.Users, 2, api.User{User: 5, Key: 51, Secret: 52, Quota: 53})
	})
	checkTurn(t, c, s, fail(1, 100), func(s *api.State) { s.Users[0].Lock.Fails = 1 })
	checkTurn(t, c, s, fail(4, 100), func(s *api.State) { s.Users[1].Lock = api.Lock{Fails: 2, Until: 140} })
	checkTurn(t, c, s, fail(6, 100), func(s *api.State) { s.Users[2].Lock.Fails = 1 })
	checkTurn(t, c, s, pass(4, 99), func(s *api.State) { s.Users[1].Step, s.Users[1].Lock = 99, api.Lock{} })
	checkTurn(t, c, s, unlock(6), func(s *api.State) { s.Users[2].Lock = api.Lock{} })
	checkTurn(t, c, s, lease(40, 6, 1, 55), func(s *api.State) {
		s.Next = 41
		s.Sessions = append(s.Sessions, api.Session{Session: 40, User: 6, Address: 1, Start: 55})
		s.Addresses[1] = api.Address{Busy: true, Last: 6}
	})
	checkTurn(t, c, s, end(31, 7, api.WhyIdle, 60), func(s *api.State) {
		s.Sessions = s.Sessions[1:]
		s.Addresses[2] = api.Address{Last: 4, Until: 60}
		s.Users[1].Used = 51
	})
	checkTurn(t, c, s, end(33, 0, api.WhyBye, 0), func(s *api.State) {
		s.Sessions = s.Sessions[:1]
		s.Addresses[0] = api.Address{Last: 1}
	})
	checkTurn(t, c, s, revoke(1), func(s *api.State) { s.Users[0].Gen = 17 })
	checkTurn(t, c, s, rotate(), func(s *api.State) { s.Epoch = 7 })
	checkTurn(t, c, s, spend(31), func(s *api.State) { s.Spent = append(s.Spent, 31) })
	checkTurn(t, c, s, spend(0), func(s *api.State) { s.Spent = append(s.Spent, 0) })
	for _, e := range eventsOf() {
		if _, f := checkRead(t, c, s, e); f != api.OK {
			t.Errorf("Apply(%v): %d", e, f)
		}
	}
}

// P20.2: each number of a config at its edges, and one beyond, for each kind.
func TestConfigs(t *testing.T) {
	for _, n := range numbersOfConfig() {
		edges := slices.Concat([]int{n.least - 1, n.least, n.most, n.most + 1, 0}, below, above)
		for _, x := range edges {
			c := setup()
			*n.of(&c) = x
			may := x >= n.least && x <= n.most
			for _, e := range eventsOf() {
				s := state()
				if n.name == "Addresses" && may {
					s.Addresses = slices.Concat(s.Addresses, empty(16).Addresses)[:x]
				}
				got, f := checkRead(t, c, s, e)
				if (f == api.ErrStateForm) == may || !may && !same(got, api.State{}) {
					t.Errorf("Apply of %v with %s %d: %d", e, n.name, x, f)
				}
			}
		}
	}
	checkNo(t, api.Config{}, api.State{}, rotate(), api.ErrStateForm)
	// Each config that may be, and what hangs on its numbers.
	for _, c := range configs() {
		s := empty(c.Addresses)
		checkTurn(t, c, s, enroll(7, 1, 2, 3), func(s *api.State) { s.Users = []api.User{{User: 7, Key: 1, Secret: 2, Quota: 3}} })
		s.Users = []api.User{{User: 7}}
		for k := range c.Fails {
			want := api.Lock{Fails: k + 1}
			if k == c.Fails-1 {
				want.Until = api.MaxTick + c.Lockout
			}
			checkTurn(t, c, s, fail(7, api.MaxTick), func(s *api.State) { s.Users[0].Lock = want })
			s.Users[0].Lock = want
		}
		checkNo(t, c, s, fail(7, api.MaxTick), api.ErrStateEvent)
		checkTurn(t, c, s, lease(0, 7, c.Addresses-1, 3), func(s *api.State) {
			s.Next, s.Sessions = 1, []api.Session{{User: 7, Address: c.Addresses - 1, Start: 3}}
			s.Addresses[c.Addresses-1] = api.Address{Busy: true, Last: 7}
		})
		s.Sessions, s.Addresses[0] = []api.Session{{User: 7}}, api.Address{Busy: true, Last: 7}
		checkTurn(t, c, s, boot(api.MaxTick), func(s *api.State) {
			s.Boots, s.Sessions = 1, nil
			s.Addresses[0] = api.Address{Last: 7, Until: api.MaxTick + c.Quarantine}
		})
	}
}

// numberOf gives a number of an event by its place.
func numberOf(e *api.Event, at int) *int {
	return []*int{&e.User, &e.Session, &e.Address, &e.A, &e.B, &e.C, &e.Tick}[at]
}

// P20.2: events of each kind that may not be: a number that its kind does not name, one beyond its limit, and kinds that are none.
func TestNoEvents(t *testing.T) {
	c, s := setup(), state()
	for _, e := range eventsOf() {
		for at := range 7 {
			for _, x := range slices.Concat([]int{0, 1, 4, 5, 7, 8, 15, 16, api.MaxTick, api.MaxTick + 1, api.MaxQuota, api.MaxQuota + 1, api.MaxNum}, below, above) {
				one := e
				*numberOf(&one, at) = x
				if _, f := checkRead(t, c, s, one); !readEvent(one) && f != api.ErrStateForm {
					t.Errorf("Apply(%v): %d", one, f)
				}
			}
		}
		for _, kind := range slices.Concat([]int{10, 11, 16, 256, 256 + e.Kind, api.MaxNum, 1<<32 + e.Kind, -1<<32 + e.Kind}, below, above) {
			one := e
			one.Kind = kind
			checkNo(t, c, s, one, api.ErrStateForm)
		}
	}
	for _, e := range []api.Event{
		{Kind: api.EvBoot, User: 1, Tick: 50}, {Kind: api.EvBoot, Tick: api.MaxTick + 1}, {Kind: api.EvBoot, Tick: -1},
		{Kind: api.EvUser, User: 5, Tick: 1}, enroll(8, 1, 2, 3), enroll(5, 1, 2, api.MaxQuota+1), enroll(5, -1, 2, 3), enroll(5, 1, api.MaxNum+1, 3),
		{Kind: api.EvFail, User: 4, A: 1, Tick: 30}, fail(-1, 30), fail(4, api.MaxTick+1),
		{Kind: api.EvPass, User: 4, A: 46, Tick: 1}, pass(4, api.MaxNum+1), pass(8, 46),
		{Kind: api.EvUnlock, User: 4, B: 1}, unlock(8), {Kind: api.EvLease, Session: 40, User: 6, Address: 1, A: 1}, lease(40, 6, 16, 1), lease(40, 6, -1, 1), lease(-1, 6, 1, 1),
		end(31, 7, 5, 60), end(31, 7, -1, 60), end(31, api.MaxNum+1, 1, 60), {Kind: api.EvClose, Session: 31, C: 1},
		{Kind: api.EvRevoke, User: 1, Address: 1}, revoke(-1), {Kind: api.EvRotate, Session: 1}, {Kind: api.EvSpend, Session: 31, User: 1}, spend(api.MaxNum + 1), spend(-1),
	} {
		checkNo(t, c, s, e, api.ErrStateForm)
	}
}

// P20.2: as many addresses as the config's, one less, one more, and none.
func TestAddresses(t *testing.T) {
	for n := 1; n <= 16; n++ {
		c := setup()
		c.Addresses = n
		for have := range 20 {
			s := empty(have)
			s.Users = []api.User{{User: 3}}
			for _, e := range []api.Event{boot(1), enroll(5, 1, 2, 3), fail(3, 1), pass(3, 1), unlock(3), lease(0, 3, 0, 1), revoke(3), rotate(), spend(0)} {
				if have != n {
					checkNo(t, c, s, e, api.ErrStateForm)
				} else if _, f := checkRead(t, c, s, e); f != api.OK {
					t.Errorf("Apply of %v with %d addresses: %d", e, n, f)
				}
			}
			if have == n {
				checkNo(t, c, s, end(0, 0, 0, 0), api.ErrStateEvent)
			} else {
				checkNo(t, c, s, end(0, 0, 0, 0), api.ErrStateForm)
			}
		}
	}
}

// P20.2: Boots, Gen and Epoch at their edges. Of an Epoch it is only asked that it is below MaxNum.
func TestCounts(t *testing.T) {
	c := setup()
	for _, x := range slices.Concat([]int{0, 1, 255, 256, api.MaxNum - 2, api.MaxNum - 1, api.MaxNum}, below, above) {
		s := with(state(), func(s *api.State) { s.Boots, s.Epoch, s.Users[1].Gen = x, x, x })
		if x >= 0 && x < api.MaxNum {
			check(t, c, s, boot(0), with(s, func(s *api.State) {
				s.Boots, s.Sessions = x+1, nil
				s.Addresses[0], s.Addresses[2] = api.Address{Last: 1, Until: 25}, api.Address{Last: 4, Until: 25}
			}))
			checkTurn(t, c, s, revoke(4), func(s *api.State) { s.Users[1].Gen++ })
		} else {
			checkNo(t, c, s, boot(0), api.ErrStateEvent)
			checkNo(t, c, s, revoke(4), api.ErrStateEvent)
		}
		if x < api.MaxNum {
			checkTurn(t, c, s, rotate(), func(s *api.State) { s.Epoch++ })
		} else {
			checkNo(t, c, s, rotate(), api.ErrStateEvent)
		}
		// They are asked of those kinds alone, and of that user.
		checkTurn(t, c, s, revoke(6), func(s *api.State) { s.Users[2].Gen = 67 })
		for _, e := range eventsOf() {
			if e.Kind != api.EvBoot && e.Kind != api.EvRotate && e.Kind != api.EvRevoke {
				if _, f := checkRead(t, c, s, e); f != api.OK {
					t.Errorf("Apply(%v) with %d: %d", e, x, f)
				}
			}
		}
	}
	for _, x := range slices.Concat([]int{api.MaxNum}, below, above) {
		s := with(state(), func(s *api.State) { s.Boots = x })
		checkTurn(t, c, s, rotate(), func(s *api.State) { s.Epoch = 7 })
		checkTurn(t, c, s, revoke(4), func(s *api.State) { s.Users[1].Gen = 47 })
		s = with(state(), func(s *api.State) { s.Epoch, s.Users[0].Gen, s.Users[2].Gen = x, x, x })
		checkTurn(t, c, s, revoke(4), func(s *api.State) { s.Users[1].Gen = 47 })
		if _, f := checkRead(t, c, s, boot(3)); f != api.OK {
			t.Errorf("boot with Epoch %d: %d", x, f)
		}
	}
}

// P20.2: EvFail at ticks about a lock's time, of each number of failures, under each number of them that locks.
func TestFails(t *testing.T) {
	for most := 1; most <= 8; most++ {
		c := setup()
		c.Fails = most
		for fails := range 9 {
			for _, until := range []int{0, 1, 100, api.MaxTick - 1, api.MaxTick, api.MaxTick + 1, api.MaxTick + api.MaxLife} {
				s := with(state(), func(s *api.State) { s.Users[1].Lock = api.Lock{Fails: fails, Until: until} })
				for _, tick := range []int{0, until - 1, until, until + 1, api.MaxTick} {
					if tick < 0 || tick > api.MaxTick {
						continue
					}
					if tick < until {
						checkNo(t, c, s, fail(4, tick), api.ErrStateEvent)
						continue
					}
					want := api.Lock{Fails: fails%most + 1, Until: until}
					if fails >= most {
						want.Fails = 1
					}
					if want.Fails == most {
						want.Until = tick + 40
					}
					checkTurn(t, c, s, fail(4, tick), func(s *api.State) { s.Users[1].Lock = want })
				}
				// Whoever passes, or is unlocked, need not be open.
				checkTurn(t, c, s, pass(4, 46), func(s *api.State) { s.Users[1].Lock, s.Users[1].Step = api.Lock{}, 46 })
				checkTurn(t, c, s, unlock(4), func(s *api.State) { s.Users[1].Lock = api.Lock{} })
			}
		}
	}
	// Locks that may not be: layer 13 refuses them, and nobody asks of the others'.
	c := setup()
	for _, k := range []api.Lock{{Fails: -1}, {Fails: 9}, {Fails: 256}, {Fails: 1 << 32}, {Fails: math.MinInt}, {Fails: math.MaxInt}, {Until: -1}, {Until: math.MinInt}, {Until: -1 << 32}, {Until: api.MaxTick + api.MaxLife + 1}, {Until: math.MaxInt}} {
		s := with(state(), func(s *api.State) { s.Users[1].Lock = k })
		checkNo(t, c, s, fail(4, 100), api.ErrStateEvent)
		checkNo(t, c, s, fail(4, api.MaxTick), api.ErrStateEvent)
		checkTurn(t, c, s, fail(1, 100), func(s *api.State) { s.Users[0].Lock.Fails = 1 })
		checkTurn(t, c, s, unlock(4), func(s *api.State) { s.Users[1].Lock = api.Lock{} })
		checkTurn(t, c, s, revoke(4), func(s *api.State) { s.Users[1].Gen = 47 })
	}
}

// P20.2: EvPass of a step that is below the user's, it, and above.
func TestSteps(t *testing.T) {
	c := setup()
	for _, step := range slices.Concat([]int{0, 1, 45, 255, 256, api.MaxNum - 1, api.MaxNum}, below, above) {
		s := with(state(), func(s *api.State) { s.Users[1].Step = step })
		for _, a := range []int{0, 1, step - 1, step, step + 1, api.MaxNum - 1, api.MaxNum} {
			switch {
			case a < 0 || a > api.MaxNum:
				checkNo(t, c, s, pass(4, a), api.ErrStateForm)
			case a <= step:
				checkNo(t, c, s, pass(4, a), api.ErrStateEvent)
			default:
				checkTurn(t, c, s, pass(4, a), func(s *api.State) { s.Users[1].Step, s.Users[1].Lock = a, api.Lock{} })
			}
		}
	}
}

// P20.2: users that are not there, and EvUser of one that is.
func TestNoUsers(t *testing.T) {
	c, s := setup(), state()
	for user := range 8 {
		is := user == 1 || user == 4 || user == 6
		for _, e := range []api.Event{fail(user, 200), pass(user, 200), unlock(user), revoke(user), lease(40, user, 3, 0)} {
			if _, f := checkRead(t, c, s, e); (f == api.OK) != is {
				t.Errorf("Apply(%v): %d", e, f)
			}
			if !is {
				checkNo(t, c, s, e, api.ErrStateEvent)
				checkNo(t, c, with(s, func(s *api.State) { s.Users = nil }), e, api.ErrStateEvent)
			}
		}
		if is {
			checkNo(t, c, s, enroll(user, 1, 2, 3), api.ErrStateEvent)
		}
		checkTurn(t, c, with(s, func(s *api.State) { s.Users = nil }), enroll(user, 1, 2, 3), func(s *api.State) { s.Users = []api.User{{User: user, Key: 1, Secret: 2, Quota: 3}} })
	}
	for _, x := range slices.Concat([]int{0, 1, api.MaxNum - 1, api.MaxNum}) {
		checkTurn(t, c, with(s, func(s *api.State) { s.Users = nil }), enroll(0, x, api.MaxNum-x, x%(api.MaxQuota+1)), func(s *api.State) {
			s.Users = []api.User{{Key: x, Secret: api.MaxNum - x, Quota: x % (api.MaxQuota + 1)}}
		})
	}
}

// usersOf are users of those numbers, in that row, that can be told from each other.
func usersOf(numbers ...int) []api.User {
	us := []api.User{}
	for k, x := range numbers {
		us = append(us, api.User{User: x, Key: 100 + k, Secret: 200 + k, Quota: 300 + k, Used: 400 + k, Lock: api.Lock{Fails: k % 9, Until: k}, Step: k, Gen: k})
	}
	return us
}

// P20.2: a user stands ahead of the first with a greater number, in rows that are out of order, too.
func TestWhereUsersStand(t *testing.T) {
	c := setup()
	for _, r := range []struct {
		users    []int
		user, at int
	}{
		{nil, 0, 0}, {nil, 7, 0}, {[]int{3}, 2, 0}, {[]int{3}, 4, 1}, {[]int{1, 3}, 0, 0}, {[]int{1, 3}, 2, 1}, {[]int{1, 3}, 4, 2},
		{[]int{7, 1}, 3, 0}, {[]int{1, 7, 2}, 3, 1}, {[]int{2, 1, 7, 0, 6}, 3, 2}, {[]int{2, 1, 0}, 3, 3}, {[]int{7, 6, 5}, 3, 0}, {[]int{7, 6, 5}, 0, 0},
		{[]int{5, 5, 5}, 3, 0}, {[]int{1, 1, 5, 5}, 3, 2}, {[]int{1, 1, 1}, 3, 3}, {[]int{-1, math.MinInt, -1 << 32}, 0, 3}, {[]int{-1, math.MaxInt, 1}, 0, 1}, {[]int{8, 1 << 32}, 7, 0}, {[]int{1<<32 + 3, 256 + 3}, 3, 0},
	} {
		s := with(state(), func(s *api.State) { s.Users = usersOf(r.users...) })
		checkTurn(t, c, s, enroll(r.user, 1, 2, 3), func(s *api.State) {
			s.Users = slices.Insert(s.Users, r.at, api.User{User: r.user, Key: 1, Secret: 2, Quota: 3})
		})
	}
	// Eight of them, in any row in which they come, stand by their numbers.
	r := rand.New(rand.NewSource(8))
	for range 200 {
		s, want := empty(4), []api.User{}
		for _, user := range r.Perm(8) {
			next, e := Apply(c, s, enroll(user, 10+user, 20+user, 30+user))
			if e != api.OK {
				t.Fatalf("Apply(%v): %d", s, e)
			}
			s = next
		}
		for user := range 8 {
			want = append(want, api.User{User: user, Key: 10 + user, Secret: 20 + user, Quota: 30 + user})
		}
		if !slices.Equal(s.Users, want) {
			t.Fatalf("%v, want %v", s.Users, want)
		}
	}
}

// P20.2: of several users of one number the first counts, wherever it stands.
func TestUsersTwice(t *testing.T) {
	c := setup()
	for _, numbers := range [][]int{{4, 4}, {4, 1, 4}, {1, 4, 4, 6}, {6, 4, 1, 4, 4}, {7, 7, 4, 7, 4}} {
		s := with(state(), func(s *api.State) { s.Users = usersOf(numbers...) })
		at := slices.Index(numbers, 4)
		s.Users[at].Lock, s.Users[at].Step, s.Users[at].Gen = api.Lock{Fails: 1, Until: 60}, 20, 5
		for k := at + 1; k < len(numbers); k++ {
			s.Users[k].Lock, s.Users[k].Step, s.Users[k].Gen = api.Lock{}, 10, api.MaxNum
		}
		checkNo(t, c, s, enroll(4, 1, 2, 3), api.ErrStateEvent)
		checkNo(t, c, s, fail(4, 59), api.ErrStateEvent)
		checkTurn(t, c, s, fail(4, 60), func(s *api.State) { s.Users[at].Lock = api.Lock{Fails: 2, Until: 100} })
		checkNo(t, c, s, pass(4, 15), api.ErrStateEvent)
		checkTurn(t, c, s, pass(4, 21), func(s *api.State) { s.Users[at].Lock, s.Users[at].Step = api.Lock{}, 21 })
		checkTurn(t, c, s, unlock(4), func(s *api.State) { s.Users[at].Lock = api.Lock{} })
		checkTurn(t, c, s, revoke(4), func(s *api.State) { s.Users[at].Gen = 6 })
		checkTurn(t, c, s, end(31, 1000, 0, 5), func(s *api.State) {
			s.Users[at].Used += 1000
			s.Sessions, s.Addresses[2] = s.Sessions[1:], api.Address{Last: 4, Until: 5}
		})
		// The other way round the first one is what refuses.
		s.Users[at].Gen, s.Users[len(numbers)-1].Gen = api.MaxNum, 5
		checkNo(t, c, s, revoke(4), api.ErrStateEvent)
	}
}

// P20.2: EvLease of a session below Next, it, and above; Next may be any number.
func TestNext(t *testing.T) {
	c := setup()
	for _, next := range slices.Concat([]int{0, 1, 40, 255, 256, api.MaxNum - 1, api.MaxNum}, below, above) {
		s := with(state(), func(s *api.State) { s.Next = next })
		for _, session := range []int{next - 1, next, next + 1, 0, 1, 256, api.MaxNum} {
			switch {
			case session < 0 || session > api.MaxNum:
				checkNo(t, c, s, lease(session, 6, 3, 55), api.ErrStateForm)
			case session != next:
				checkNo(t, c, s, lease(session, 6, 3, 55), api.ErrStateEvent)
			default:
				checkTurn(t, c, s, lease(session, 6, 3, 55), func(s *api.State) {
					s.Next = next + 1
					s.Sessions = append(s.Sessions, api.Session{Session: next, User: 6, Address: 3, Start: 55})
					s.Addresses[3] = api.Address{Busy: true, Last: 6}
				})
			}
		}
	}
	// Nobody asks whether there is a session of that number already.
	s := with(state(), func(s *api.State) { s.Next = 31 })
	checkTurn(t, c, s, lease(31, 6, 3, 55), func(s *api.State) {
		s.Next = 32
		s.Sessions = append(s.Sessions, api.Session{Session: 31, User: 6, Address: 3, Start: 55})
		s.Addresses[3] = api.Address{Busy: true, Last: 6}
	})
}

// P20.2: EvLease with fewer sessions than the config's, as many, and more.
func TestSessionsFull(t *testing.T) {
	for most := 1; most <= 8; most++ {
		c := setup()
		c.Sessions = most
		for n := range 12 {
			s := with(state(), func(s *api.State) {
				s.Sessions = nil
				for k := range n {
					s.Sessions = append(s.Sessions, api.Session{Session: k, User: k, Address: k, Start: k})
				}
			})
			if n >= most {
				checkNo(t, c, s, lease(40, 4, 3, 1), api.ErrStateEvent)
				continue
			}
			checkTurn(t, c, s, lease(40, 4, 3, 1), func(s *api.State) {
				s.Next = 41
				s.Sessions = append(s.Sessions, api.Session{Session: 40, User: 4, Address: 3, Start: 1})
				s.Addresses[3] = api.Address{Busy: true, Last: 4}
			})
		}
	}
}

// P20.2: EvLease of each address: one that is there, free or Busy, whatever its Until and the tick, and one that is not.
func TestLeasedAddresses(t *testing.T) {
	for n := 1; n <= 16; n++ {
		c := setup()
		c.Addresses = n
		for address := range 16 {
			for _, a := range []api.Address{{Last: -1}, {Last: 7, Until: 60}, {Busy: true, Last: 4}, {Busy: true, Last: -1, Until: 60}} {
				s := empty(n)
				s.Next, s.Users = 40, state().Users
				if address < n {
					s.Addresses[address] = a
				}
				for _, tick := range []int{0, 59, 60, 61, api.MaxTick} {
					if address >= n || a.Busy {
						checkNo(t, c, s, lease(40, 4, address, tick), api.ErrStateEvent)
						continue
					}
					checkTurn(t, c, s, lease(40, 4, address, tick), func(s *api.State) {
						s.Next, s.Sessions = 41, []api.Session{{Session: 40, User: 4, Address: address, Start: tick}}
						s.Addresses[address] = api.Address{Busy: true, Last: 4}
					})
				}
			}
		}
	}
}

// P20.2: pools that may not be: layer 16 refuses them where it is called, and nowhere else.
func TestNoPools(t *testing.T) {
	c := setup()
	for _, a := range []api.Address{{Last: -2}, {Last: 8}, {Last: 256}, {Last: math.MinInt}, {Last: 1 << 32}, {Last: -1, Until: -1}, {Until: math.MinInt}, {Until: -1 << 32}} {
		for _, busy := range []bool{false, true} {
			a.Busy = busy
			s := with(state(), func(s *api.State) { s.Addresses[1] = a })
			for _, e := range eventsOf() {
				calls := e.Kind == api.EvBoot || e.Kind == api.EvLease || e.Kind == api.EvClose
				if _, f := checkRead(t, c, s, e); calls != (f == api.ErrStateEvent) {
					t.Errorf("Apply of %v with %v: %d", e, a, f)
				}
			}
			checkNo(t, c, s, lease(40, 6, 3, 55), api.ErrStateEvent)
			// Without a session there is no address to be freed.
			s.Sessions = nil
			checkTurn(t, c, s, boot(50), func(s *api.State) { s.Boots = 6 })
		}
	}
}

// P20.2: EvBoot of any number of sessions, at each edge of its tick.
func TestBoots(t *testing.T) {
	for _, tick := range []int{0, 1, 1000, api.MaxTick - 1, api.MaxTick} {
		for _, quarantine := range []int{1, 25, api.MaxLife} {
			for n := range 17 {
				c := setup()
				c.Addresses, c.Quarantine = 16, quarantine
				s := empty(16)
				s.Users, s.Next, s.Spent = state().Users, 99, []int{4}
				want := copyOf(s)
				want.Boots = 1
				for k := range n {
					address, user := (k*5+3)%16, k%8
					s.Sessions = append(s.Sessions, api.Session{Session: 3 * k, User: user, Address: address, Start: k})
					s.Addresses[address] = api.Address{Busy: true, Last: 7 - user, Until: k}
					want.Addresses[address] = api.Address{Last: 7 - user, Until: tick + quarantine}
				}
				check(t, c, s, boot(tick), want)
			}
		}
	}
	// Busy ones that no session has stay so; free ones stay as they are.
	s := with(state(), func(s *api.State) { s.Sessions = s.Sessions[:1] })
	checkTurn(t, setup(), s, boot(7), func(s *api.State) {
		s.Boots, s.Sessions, s.Addresses[2] = 6, nil, api.Address{Last: 4, Until: 32}
	})
	// Addresses that are not there, free already, or of two sessions, are refused, whichever session's they are.
	for _, address := range slices.Concat([]int{4, 5, 16, 256, 1, 3}, below, above) {
		for at := range 2 {
			s := with(state(), func(s *api.State) { s.Sessions[at].Address = address })
			checkNo(t, setup(), s, boot(7), api.ErrStateEvent)
			s.Sessions[at].Address = s.Sessions[1-at].Address
			checkNo(t, setup(), s, boot(7), api.ErrStateEvent)
		}
	}
}

// P20.2: EvClose of sessions that are there, and of others.
func TestEnds(t *testing.T) {
	c, s := setup(), state()
	for _, session := range []int{0, 1, 2, 4, 30, 32, 34, 39, 40, 41, 256 + 31, api.MaxNum} {
		checkNo(t, c, s, end(session, 0, 0, 0), api.ErrStateEvent)
	}
	checkNo(t, c, with(s, func(s *api.State) { s.Sessions = nil }), end(31, 0, 0, 0), api.ErrStateEvent)
	for why := range 5 {
		for _, tick := range []int{0, 8, 9, 10, api.MaxTick} {
			checkTurn(t, c, s, end(33, 6, why, tick), func(s *api.State) {
				s.Sessions, s.Addresses[0], s.Users[0].Used = s.Sessions[:1], api.Address{Last: 1, Until: tick}, 20
			})
		}
	}
	// Each place of a row; its own user gets the bytes, not whom the address names.
	for n := 1; n <= 8; n++ {
		for at := range n {
			s := state()
			s.Sessions = nil
			for k := range n {
				s.Sessions = append(s.Sessions, api.Session{Session: 70 + k, User: 1, Address: 0, Start: k})
			}
			s.Sessions[at].User, s.Sessions[at].Address = 6, 2
			checkTurn(t, c, s, end(70+at, 100, 0, 12), func(s *api.State) {
				s.Sessions = slices.Delete(s.Sessions, at, at+1)
				s.Addresses[2], s.Users[2].Used = api.Address{Last: 4, Until: 12}, 164
			})
		}
	}
	// Without its user nobody gets them.
	gone := with(s, func(s *api.State) { s.Users = s.Users[:1] })
	checkTurn(t, c, gone, end(31, api.MaxNum, 0, 12), func(s *api.State) {
		s.Sessions, s.Addresses[2] = s.Sessions[1:], api.Address{Last: 4, Until: 12}
	})
	// Addresses that are not there, or free already.
	for _, address := range slices.Concat([]int{4, 5, 16, 256, 1, 3}, below, above) {
		no := with(s, func(s *api.State) { s.Sessions[0].Address = address })
		checkNo(t, c, no, end(31, 0, 0, 0), api.ErrStateEvent)
		checkTurn(t, c, no, end(33, 0, 0, 0), func(s *api.State) {
			s.Sessions, s.Addresses[0] = s.Sessions[:1], api.Address{Last: 1}
		})
	}
}

// P20.2: of several sessions of one number the first counts, and the others stay.
func TestSessionsTwice(t *testing.T) {
	c := setup()
	s := with(state(), func(s *api.State) {
		s.Sessions = []api.Session{{Session: 20, User: 6, Address: 0, Start: 1}, {Session: 31, User: 4, Address: 2, Start: 2}, {Session: 31, User: 1, Address: 0, Start: 3}, {Session: 31, User: 6, Address: 1, Start: 4}}
	})
	checkTurn(t, c, s, end(31, 5, 0, 9), func(s *api.State) {
		s.Sessions = slices.Delete(s.Sessions, 1, 2)
		s.Addresses[2], s.Users[1].Used = api.Address{Last: 4, Until: 9}, 49
	})
	// The address of the first is what refuses.
	s.Sessions[1].Address = 1
	checkNo(t, c, s, end(31, 5, 0, 9), api.ErrStateEvent)
}

// P20.2: Used and A that make MaxNum, one more, and any number.
func TestUsed(t *testing.T) {
	c := setup()
	for _, used := range slices.Concat([]int{0, 1, 44, api.MaxNum - 5, api.MaxNum - 1, api.MaxNum}, below, above) {
		for _, a := range []int{0, 1, 4, 5, 6, api.MaxNum - used - 1, api.MaxNum - used, api.MaxNum - used + 1, api.MaxNum - 1, api.MaxNum} {
			if a < 0 || a > api.MaxNum {
				continue
			}
			want := api.MaxNum
			if used < api.MaxNum {
				want = min(used+a, api.MaxNum)
			}
			s := with(state(), func(s *api.State) { s.Users[1].Used = used })
			checkTurn(t, c, s, end(31, a, 0, 9), func(s *api.State) {
				s.Sessions, s.Addresses[2], s.Users[1].Used = s.Sessions[1:], api.Address{Last: 4, Until: 9}, want
			})
		}
	}
}

// P20.2: EvSpend of each session that is among Spent, and of others; none need be there, nor be below Next.
func TestSpent(t *testing.T) {
	c := setup()
	for _, spent := range [][]int{nil, {0}, {9}, {9, 2, 30}, {9, 9, 2}, {api.MaxNum}, {-1, math.MinInt, 1 << 32, 256}} {
		s := with(state(), func(s *api.State) { s.Spent = spent })
		for _, session := range []int{0, 1, 2, 9, 30, 31, 33, 40, 255, 256, api.MaxNum - 1, api.MaxNum} {
			if slices.Contains(spent, session) {
				checkNo(t, c, s, spend(session), api.ErrStateEvent)
				continue
			}
			checkTurn(t, c, s, spend(session), func(s *api.State) { s.Spent = append(s.Spent, session) })
		}
	}
}

// P20.2 with R6: a form that may not be is told ahead of what the table asks.
func TestSeveral(t *testing.T) {
	c, s := setup(), state()
	none := c
	none.Keep = 5
	refused := []api.Event{enroll(4, 1, 2, 3), fail(5, 1), fail(6, 49), pass(4, 45), unlock(5), lease(41, 4, 3, 1), lease(40, 5, 3, 1), lease(40, 4, 0, 1), end(40, 0, 0, 0), revoke(5), spend(9)}
	for _, e := range refused {
		checkNo(t, c, s, e, api.ErrStateEvent)
		checkNo(t, none, s, e, api.ErrStateForm)
		checkNo(t, c, with(s, func(s *api.State) { s.Addresses = s.Addresses[:3] }), e, api.ErrStateForm)
		checkNo(t, c, with(s, func(s *api.State) { s.Addresses = append(s.Addresses, api.Address{}) }), e, api.ErrStateForm)
		checkNo(t, none, with(s, func(s *api.State) { s.Addresses = nil }), e, api.ErrStateForm)
		e.C = -1
		checkNo(t, c, s, e, api.ErrStateForm)
		checkNo(t, none, s, e, api.ErrStateForm)
	}
	for _, s := range []api.State{with(s, func(s *api.State) { s.Boots, s.Epoch = api.MaxNum, api.MaxNum }), with(s, func(s *api.State) { s.Boots, s.Epoch, s.Addresses[0].Last = -1, api.MaxNum, 8 })} {
		for _, e := range []api.Event{boot(1), rotate()} {
			checkNo(t, c, s, e, api.ErrStateEvent)
			checkNo(t, none, s, e, api.ErrStateForm)
			e.User = 1
			checkNo(t, c, s, e, api.ErrStateForm)
		}
	}
	// With zeros handed in.
	checkNo(t, c, api.State{}, boot(1), api.ErrStateForm)
	checkNo(t, api.Config{}, api.State{}, boot(1), api.ErrStateForm)
}

// P20.3: no events: New of the config's addresses, whatever its other numbers are.
func TestAllOfNone(t *testing.T) {
	for n := 1; n <= 16; n++ {
		c := setup()
		c.Addresses = n
		checkAll(t, c, nil, empty(n), api.OK)
		checkAll(t, api.Config{Addresses: n}, nil, empty(n), api.OK)
		checkAll(t, api.Config{Addresses: n}, []api.Event{rotate()}, api.State{}, api.ErrStateForm)
	}
	for _, n := range slices.Concat([]int{0, 17, 18, 256, 257}, below, above) {
		c := setup()
		c.Addresses = n
		checkAll(t, c, nil, api.State{}, api.ErrStateForm)
		checkAll(t, c, []api.Event{rotate()}, api.State{}, api.ErrStateForm)
	}
	if s, e := All(setup()); !same(s, empty(4)) || e != api.OK {
		t.Errorf("All: %v, %d", s, e)
	}
}

// P20.3: the first error of a row, wherever it stands.
func TestAllErrors(t *testing.T) {
	c := setup()
	good := []api.Event{boot(1), enroll(4, 1, 2, 3), lease(0, 4, 0, 2), fail(4, 3), spend(7), end(0, 5, 0, 9)}
	form, event := rotate(), fail(5, 1)
	form.Tick = 1
	for at := range len(good) + 1 {
		for _, r := range []struct {
			bad  []api.Event
			want api.Errno
		}{
			{[]api.Event{form}, api.ErrStateForm}, {[]api.Event{event}, api.ErrStateEvent}, {[]api.Event{form, event}, api.ErrStateForm}, {[]api.Event{event, form}, api.ErrStateEvent}, {[]api.Event{event, event, form}, api.ErrStateEvent},
		} {
			checkAll(t, c, slices.Concat(good[:at], r.bad, good[at:]), api.State{}, r.want)
			checkAll(t, c, slices.Concat(good[:at], r.bad), api.State{}, r.want)
		}
	}
	// What one event did the next one finds, and no event is told twice.
	checkAll(t, c, []api.Event{enroll(4, 1, 2, 3), enroll(4, 1, 2, 3)}, api.State{}, api.ErrStateEvent)
	checkAll(t, c, []api.Event{spend(7), spend(8), spend(7)}, api.State{}, api.ErrStateEvent)
	checkAll(t, c, []api.Event{lease(0, 4, 0, 0), enroll(4, 1, 2, 3)}, api.State{}, api.ErrStateEvent)
	c.Keep = 5
	checkAll(t, c, []api.Event{event}, api.State{}, api.ErrStateForm)
}

// checkRow tells that a row of events makes that state: at once, one by one, and in two parts.
func checkRow(t *testing.T, c api.Config, es []api.Event, want api.State) {
	t.Helper()
	checkAll(t, c, es, want, api.OK)
	cut := len(es) / 2
	s, e := All(c, es[:cut]...)
	for _, x := range es[cut:] {
		if e != api.OK {
			t.Fatalf("%v: %d", es, e)
		}
		s, e = Apply(c, s, x)
	}
	if !same(s, want) || e != api.OK {
		t.Errorf("%v in two parts: %v, %d, want %v", es, s, e, want)
	}
}

// history is what a row of events tells that none of them refuses, told by looking back on the whole row.
func history(c api.Config, es []api.Event) api.State {
	s := empty(c.Addresses)
	count := func(kind, user int) int {
		n := 0
		for _, e := range es {
			if e.Kind == kind && e.User == user {
				n++
			}
		}
		return n
	}
	s.Boots, s.Epoch = count(api.EvBoot, 0), count(api.EvRotate, 0)
	for user := range 8 {
		for _, e := range es {
			if e.Kind == api.EvUser && e.User == user {
				s.Users = append(s.Users, api.User{User: user, Key: e.A, Secret: e.B, Quota: e.C, Gen: count(api.EvRevoke, user)})
			}
		}
		s.Next += count(api.EvLease, user)
	}
	for at, e := range es {
		switch e.Kind {
		case api.EvSpend:
			s.Spent = append(s.Spent, e.Session)
		case api.EvLease:
			historyOfSession(c, &s, e, es[at+1:])
		}
	}
	for k := range s.Users {
		s.Users[k].Step, s.Users[k].Lock = historyOfLock(c, s.Users[k].User, es)
	}
	return s
}

// historyOfSession tells of a lease what came of it behind.
func historyOfSession(c api.Config, s *api.State, lease api.Event, behind []api.Event) {
	a := &s.Addresses[lease.Address]
	for _, e := range behind {
		if e.Kind == api.EvBoot {
			*a = api.Address{Last: lease.User, Until: e.Tick + c.Quarantine}
			return
		}
		if e.Kind == api.EvClose && e.Session == lease.Session {
			*a = api.Address{Last: lease.User, Until: e.Tick}
			at := slices.IndexFunc(s.Users, func(u api.User) bool { return u.User == lease.User })
			s.Users[at].Used = min(s.Users[at].Used+e.A, api.MaxNum)
			return
		}
	}
	*a = api.Address{Busy: true, Last: lease.User}
	s.Sessions = append(s.Sessions, api.Session{Session: lease.Session, User: lease.User, Address: lease.Address, Start: lease.Tick})
}

// historyOfLock tells a user's last step, and its failures since it passed or was unlocked.
func historyOfLock(c api.Config, user int, es []api.Event) (int, api.Lock) {
	step, ticks := 0, []int{}
	for _, e := range es {
		if e.User != user {
			continue
		}
		switch e.Kind {
		case api.EvPass:
			step, ticks = e.A, nil
		case api.EvUnlock:
			ticks = nil
		case api.EvFail:
			ticks = append(ticks, e.Tick)
		}
	}
	// Each row of Fails of them locked it; those behind the last such row count.
	n := len(ticks)
	if n == 0 {
		return step, api.Lock{}
	}
	k := api.Lock{Fails: (n-1)%c.Fails + 1}
	if rows := n / c.Fails; rows > 0 {
		k.Until = ticks[rows*c.Fails-1] + c.Lockout
	}
	return step, k
}

// pick gives an event that s may well take, at a tick.
func pick(r *rand.Rand, s api.State, tick int) api.Event {
	user := r.Intn(8)
	if len(s.Users) > 0 && r.Intn(8) > 0 {
		user = s.Users[r.Intn(len(s.Users))].User
	}
	session := r.Intn(s.Next + 2)
	if len(s.Sessions) > 0 && r.Intn(8) > 0 {
		session = s.Sessions[r.Intn(len(s.Sessions))].Session
	}
	switch r.Intn(14) {
	case 0:
		if r.Intn(4) == 0 {
			return boot(tick)
		}
		return rotate()
	case 1, 2:
		return enroll(r.Intn(8), r.Intn(99), r.Intn(99), r.Intn(99))
	case 3, 4:
		return fail(user, tick)
	case 5:
		return pass(user, tick/3)
	case 6:
		return unlock(user)
	case 7:
		return revoke(user)
	case 8:
		return spend(r.Intn(20))
	case 9, 10:
		return end(session, r.Intn(99), r.Intn(5), tick)
	}
	return lease(s.Next-r.Intn(9)/8, user, r.Intn(len(s.Addresses)), tick)
}

// P20.2, P20.3: rows of events of every kind under several configs, held against the plain
// reader event by event, and as a whole against what the row's history tells.
func TestRows(t *testing.T) {
	r := rand.New(rand.NewSource(20))
	for range 400 {
		c := configs()[r.Intn(3)]
		c.Fails, c.Lockout, c.Addresses, c.Sessions, c.Quarantine = 1+r.Intn(8), 1+r.Intn(20), 1+r.Intn(16), 1+r.Intn(8), 1+r.Intn(50)
		s, es, tick := empty(c.Addresses), []api.Event{}, r.Intn(30)
		for range 120 {
			tick += r.Intn(4)
			e := pick(r, s, tick)
			next, f := checkRead(t, c, s, e)
			if f == api.OK {
				s, es = next, append(es, e)
			} else if r.Intn(20) == 0 {
				checkAll(t, c, slices.Concat(es, []api.Event{e, rotate()}), api.State{}, f)
			}
		}
		checkRow(t, c, es, s)
		if want := history(c, es); !same(s, want) {
			t.Fatalf("%v: %v, its history tells %v", es, s, want)
		}
	}
}

// P20.2: any states, with numbers that may not be among them, and any events.
func TestRandom(t *testing.T) {
	r := rand.New(rand.NewSource(2))
	odd := slices.Concat([]int{0, 1, 2, 7, 8, 15, 16, api.MaxTick, api.MaxTick + api.MaxLife, api.MaxNum - 1, api.MaxNum}, below, above)
	num := func(n int) int {
		if r.Intn(60) == 0 {
			return odd[r.Intn(len(odd))]
		}
		return r.Intn(n)
	}
	for range 60000 {
		c := setup()
		c.Sessions, c.Addresses, c.Fails = 1+r.Intn(4), 1+r.Intn(4), 1+r.Intn(3)
		s := empty(c.Addresses)
		if r.Intn(30) == 0 {
			s = empty(1 + r.Intn(5))
		}
		s.Boots, s.Epoch, s.Next = num(3), num(3), num(4)
		for range r.Intn(5) {
			s.Users = append(s.Users, api.User{User: num(4), Key: num(9), Secret: num(9), Quota: num(9), Used: num(9), Lock: api.Lock{Fails: num(4), Until: num(6)}, Step: num(6), Gen: num(4)})
		}
		for k := range s.Addresses {
			s.Addresses[k] = api.Address{Busy: r.Intn(2) == 0, Last: num(9) - 1, Until: num(6)}
		}
		for range r.Intn(5) {
			s.Sessions = append(s.Sessions, api.Session{Session: num(4), User: num(4), Address: num(len(s.Addresses)), Start: num(6)})
		}
		for range r.Intn(4) {
			s.Spent = append(s.Spent, num(4))
		}
		checkRead(t, c, s, []api.Event{boot(num(6)), enroll(num(5), num(9), num(9), num(9)), fail(num(4), num(8)), pass(num(4), num(8)), unlock(num(4)), lease(num(4), num(4), num(5), num(6)), end(num(4), num(6), num(5), num(6)), revoke(num(4)), rotate(), spend(num(4))}[r.Intn(10)])
	}
}

// P20.3: a long row: what may be asked ends in a time that its length explains.
func TestLong(t *testing.T) {
	const n = 1 << 18
	c, es := setup(), []api.Event{enroll(4, 1, 2, 3)}
	for k := range n {
		es = append(es, spend(n-k), lease(k, 4, k%4, k), end(k, 1, 0, k))
	}
	s, e := All(c, es...)
	if s.Next != n || len(s.Spent) != n || s.Spent[0] != n || s.Spent[n-1] != 1 || len(s.Users) != 1 || s.Users[0].Used != n || len(s.Sessions) != 0 || e != api.OK {
		t.Errorf("All of %d: %d, %d, %v, %v, %d", len(es), s.Next, len(s.Spent), s.Users, s.Sessions, e)
	}
	if s, e := All(c, append(es, spend(n/2))...); !same(s, api.State{}) || e != api.ErrStateEvent {
		t.Errorf("All of %d: %d", len(es)+1, e)
	}
	next, e := Apply(c, s, spend(0))
	if len(next.Spent) != n+1 || next.Spent[n] != 0 || e != api.OK {
		t.Errorf("Apply to %d spent: %d, %d", n, len(next.Spent), e)
	}
	if got, e := Apply(c, s, spend(n)); !same(got, api.State{}) || e != api.ErrStateEvent {
		t.Errorf("Apply to %d spent: %d", n, e)
	}
}

// P20.2 with R4: answers that come of one state, and of each other, kept side by side, share nothing.
func TestOwnMemory(t *testing.T) {
	c := setup()
	p := roomyOf(state())
	answers := []api.State{}
	for range 2 {
		for _, e := range eventsOf() {
			one, f := Apply(c, p.s, e)
			two, g := Apply(c, one, spend(50+len(answers)))
			if f != api.OK || g != api.OK {
				t.Fatalf("Apply(%v): %d, %d", e, f, g)
			}
			answers = append(answers, one, two)
		}
	}
	checkOwn(t, "a row of calls", p, state(), answers...)
	// An answer that is handed in again stays as it was, its spare room too.
	s := empty(4)
	for k := range 20 {
		next, e := Apply(c, s, spend(k))
		if e != api.OK {
			t.Fatalf("Apply(%v): %d", s, e)
		}
		was := copyOf(wide(next))
		one, _ := Apply(c, next, spend(100))
		two, _ := Apply(c, next, spend(101))
		three, _ := Apply(c, next, enroll(2, 1, 2, 3))
		if !same(wide(next), was) || one.Spent[k+1] != 100 || two.Spent[k+1] != 101 || len(three.Users) != 1 {
			t.Fatalf("%v is %v now: %v, %v", was, wide(next), one, two)
		}
		s = next
	}
}

// P20.2, P20.3: a row of calls, told one by one.
func TestRowTold(t *testing.T) {
	c := setup()
	es := []api.Event{boot(5), enroll(4, 10, 11, 500), enroll(2, 20, 21, 600), fail(4, 6), pass(4, 3), lease(0, 4, 0, 7), lease(1, 2, 3, 8), fail(2, 9), fail(2, 10)}
	checkRow(t, c, es, api.State{Boots: 1, Next: 2,
		Users:     []api.User{{User: 2, Key: 20, Secret: 21, Quota: 600, Lock: api.Lock{Fails: 2, Until: 50}}, {User: 4, Key: 10, Secret: 11, Quota: 500, Step: 3}},
		Sessions:  []api.Session{{User: 4, Start: 7}, {Session: 1, User: 2, Address: 3, Start: 8}},
		Addresses: []api.Address{{Busy: true, Last: 4}, {Last: -1}, {Last: -1}, {Busy: true, Last: 2}},
	})
	es = append(es, spend(0), end(0, 90, api.WhyBye, 20), rotate(), lease(2, 4, 0, 20), revoke(2), unlock(2), boot(30), boot(40))
	checkRow(t, c, es, api.State{Boots: 3, Epoch: 1, Next: 3,
		Users:     []api.User{{User: 2, Key: 20, Secret: 21, Quota: 600, Gen: 1}, {User: 4, Key: 10, Secret: 11, Quota: 500, Used: 90, Step: 3}},
		Addresses: []api.Address{{Last: 4, Until: 55}, {Last: -1}, {Last: -1}, {Last: 2, Until: 55}},
		Spent:     []int{0},
	})
}

// P20.1, P20.2, P20.3 with R5: several goroutines at one time, over one state.
func TestAtOneTime(t *testing.T) {
	c, s := setup(), state()
	want, _ := All(c, boot(5), enroll(4, 10, 11, 500), spend(7))
	var all sync.WaitGroup
	for k := range 16 {
		all.Go(func() {
			for range 300 {
				e := eventsOf()[k%10]
				got, f := Apply(c, s, e)
				if next, g := readApply(c, s, e); !same(got, next) || f != g {
					t.Errorf("Apply(%v): %v, %d, want %v, %d", e, got, f, next, g)
				}
				if got, f := All(c, boot(5), enroll(4, 10, 11, 500), spend(7)); !same(got, want) || f != api.OK {
					t.Errorf("All: %v, %d, want %v", got, f, want)
				}
				if got, f := New(1 + k); !same(got, empty(1+k)) || f != api.OK {
					t.Errorf("New(%d): %v, %d", 1+k, got, f)
				}
			}
		})
	}
	all.Wait()
	if !same(s, state()) {
		t.Errorf("%v is %v now", state(), s)
	}
}
