package neigh_test

import (
	"math"
	"slices"
	"strings"
	"testing"

	"sternpost/api"
	"sternpost/arp"
	"sternpost/ip"
	"sternpost/neigh"
)

const (
	group = 1 << 40   // the bit of a hardware address that makes it one of a group
	topIP = 1<<32 - 1 // the highest address of IPv4
)

var (
	// farNumbers are no addresses of either kind, and no numbers that a Setup may have.
	farNumbers = []int{-1, -2, 1 << 48, math.MinInt, math.MinInt + 1, math.MaxInt, math.MaxInt - 1}

	// noTicks are none at which something may be sent, taken or waited for.
	noTicks = []int{-1, -2, api.MaxTick + 1, math.MinInt, math.MinInt + 1, math.MaxInt, math.MaxInt - 1}

	plain = neigh.Setup{Mac: 2, Age: 20, Patience: 4, Room: 2, Waits: 3}
)

// packet is one that may be, told from others by a number.
func packet(n int) api.Packet {
	return api.Packet{From: 10, To: 99, TTL: 9, Proto: api.ProtoTcp, Ident: n, Dont: true, Options: "1234", Data: "data"}
}

func packets(numbers ...int) []api.Packet {
	var ps []api.Packet
	for _, n := range numbers {
		ps = append(ps, packet(n))
	}
	return ps
}

// question is by plain's Mac.
func question(from, to int) api.Arp {
	return api.Arp{Op: api.ArpAsk, FromMac: 2, FromIP: from, ToIP: to}
}

func questions(from int, to ...int) []api.Arp {
	var as []api.Arp
	for _, n := range to {
		as = append(as, question(from, n))
	}
	return as
}

// says is an answer that concerns nobody but who says it.
func says(mac, from int) api.Arp { return api.Arp{Op: api.ArpTell, FromMac: mac, FromIP: from} }

func asks(mac, from, to int) api.Arp {
	return api.Arp{Op: api.ArpAsk, FromMac: mac, FromIP: from, ToIP: to}
}

// made is a cache that may not be refused.
func made(t *testing.T, s neigh.Setup, own ...int) *neigh.Cache {
	t.Helper()
	c, e := neigh.New(s, own...)
	if e != api.OK || c == nil {
		t.Fatalf("New(%v, %v): %d", s, own, e)
	}
	return c
}

// waits looks whether a packet waits, with this question.
func waits(t *testing.T, c *neigh.Cache, n, to, now int, want api.Arp) {
	t.Helper()
	if mac, ask, e := c.Send(packet(n), to, now); mac != 0 || ask != want || e != api.ErrWait {
		t.Errorf("Send %d to %d, tick %d: %d, %v, %d, want %v", n, to, now, mac, ask, e, want)
	}
}

// goes looks whether a packet may go to that hardware address.
func goes(t *testing.T, c *neigh.Cache, to, now, want int) {
	t.Helper()
	if mac, ask, e := c.Send(packet(0), to, now); mac != want || ask != (api.Arp{}) || e != api.OK {
		t.Errorf("Send to %d, tick %d: %d, %v, %d, want %d", to, now, mac, ask, e, want)
	}
}

// sendRefused looks whether a packet is refused.
func sendRefused(t *testing.T, c *neigh.Cache, p api.Packet, to, now int, want api.Code) {
	t.Helper()
	if mac, ask, e := c.Send(p, to, now); mac != 0 || ask != (api.Arp{}) || e != want {
		t.Errorf("Send to %d, tick %d: %d, %v, %d, want error %d", to, now, mac, ask, e, want)
	}
}

// takes looks whether just these packets come out, to who said it, and nothing is answered.
func takes(t *testing.T, c *neigh.Cache, a api.Arp, now int, numbers ...int) {
	t.Helper()
	answers(t, c, a, now, api.Arp{}, numbers...)
}

// answers looks whether this is answered, and just these packets come out, to who said it.
func answers(t *testing.T, c *neigh.Cache, a api.Arp, now int, want api.Arp, numbers ...int) {
	t.Helper()
	to := 0
	if len(numbers) > 0 {
		to = a.FromMac
	}
	answer, out, mac, e := c.Take(a, now)
	if answer != want || !slices.Equal(out, packets(numbers...)) || mac != to || e != api.OK {
		t.Errorf("Take %v, tick %d: %v, %v, %d, %d, want %v, %v, %d", a, now, answer, out, mac, e, want, numbers, to)
	}
}

// takeRefused looks whether an ARP packet is refused.
func takeRefused(t *testing.T, c *neigh.Cache, a api.Arp, now int, want api.Code) {
	t.Helper()
	if answer, out, mac, e := c.Take(a, now); answer != (api.Arp{}) || len(out) != 0 || mac != 0 || e != want {
		t.Errorf("Take %v, tick %d: %v, %v, %d, %d, want error %d", a, now, answer, out, mac, e, want)
	}
}

// ticks looks whether just these questions come, and just these packets are lost.
func ticks(t *testing.T, c *neigh.Cache, now int, want []api.Arp, numbers ...int) {
	t.Helper()
	if asks, lost, e := c.Tick(now); !slices.Equal(asks, want) || !slices.Equal(lost, packets(numbers...)) || e != api.OK {
		t.Errorf("Tick %d: %v, %v, %d, want %v, %v", now, asks, lost, e, want, numbers)
	}
}

// tickRefused looks whether a tick is refused.
func tickRefused(t *testing.T, c *neigh.Cache, now int) {
	t.Helper()
	if asks, lost, e := c.Tick(now); len(asks) != 0 || len(lost) != 0 || e != api.ErrRange {
		t.Errorf("Tick %d: %v, %v, %d, want error %d", now, asks, lost, e, api.ErrRange)
	}
}

// knows looks whether a neighbour is known by that hardware address.
func knows(t *testing.T, c *neigh.Cache, ip, now, want int) {
	t.Helper()
	if mac, ok := c.Look(ip, now); mac != want || !ok {
		t.Errorf("Look %d, tick %d: %d, %v, want %d", ip, now, mac, ok, want)
	}
}

// stranger looks whether a neighbour is not known.
func stranger(t *testing.T, c *neigh.Cache, ip, now int) {
	t.Helper()
	if mac, ok := c.Look(ip, now); mac != 0 || ok {
		t.Errorf("Look %d, tick %d: %d, %v, want none", ip, now, mac, ok)
	}
}

// has looks whether just these addresses are its own, rising.
func has(t *testing.T, c *neigh.Cache, want ...int) {
	t.Helper()
	if mine := c.Mine(); !slices.Equal(mine, want) {
		t.Errorf("Mine: %v, want %v", mine, want)
	}
}

// own looks whether an address may be taken in, or taken away.
func own(t *testing.T, c *neigh.Cache, ip int, have bool) {
	t.Helper()
	if e := c.Own(ip, have); e != api.OK {
		t.Errorf("Own(%d, %v): %d", ip, have, e)
	}
}

// 11.1: New, at the edges of all its numbers.
func TestNew(t *testing.T) {
	for _, s := range []neigh.Setup{
		plain, {0, 1, 1, 1, 1}, {api.Everyone - group, 1 << 20, 1 << 20, 1024, 1024},
		{group - 1, 1 << 20, 1, 1, 1}, {2 * group, 1, 1 << 20, 1, 1}, {2, 1, 1, 1024, 1}, {2, 1, 1, 1, 1024},
	} {
		c := made(t, s, 0, topIP)
		has(t, c, 0, topIP)
		for _, ip := range []int{0, 1, 11, topIP} {
			stranger(t, c, ip, 0)
		}
		ticks(t, c, 0, nil)
		has(t, made(t, s))
	}
	bad := []neigh.Setup{
		{}, {group, 1, 1, 1, 1}, {api.Everyone, 1, 1, 1, 1}, {3 * group, 1, 1, 1, 1},
		{2, 0, 1, 1, 1}, {2, 1<<20 + 1, 1, 1, 1}, {2, 1, 0, 1, 1}, {2, 1, 1<<20 + 1, 1, 1},
		{2, 1, 1, 0, 1}, {2, 1, 1, 1025, 1}, {2, 1, 1, 1, 0}, {2, 1, 1, 1, 1025},
	}
	for _, n := range farNumbers {
		bad = append(bad, neigh.Setup{n, 1, 1, 1, 1}, neigh.Setup{2, n, 1, 1, 1}, neigh.Setup{2, 1, n, 1, 1}, neigh.Setup{2, 1, 1, n, 1}, neigh.Setup{2, 1, 1, 1, n})
	}
	for _, s := range bad {
		if c, e := neigh.New(s, 10); c != nil || e != api.ErrRange {
			t.Errorf("New(%v): %v, %d", s, c, e)
		}
	}
	for _, n := range append([]int{topIP + 1}, farNumbers...) {
		for _, own := range [][]int{{n}, {n, 10}, {10, n}, {9, n, 10}} {
			if c, e := neigh.New(plain, own...); c != nil || e != api.ErrRange {
				t.Errorf("New(%v): %v, %d", own, c, e)
			}
		}
	}
}

// 11.1: Mine and Own: rising, each once, whatever came first.
func TestOwn(t *testing.T) {
	c := made(t, plain, 10, 9, topIP, 10, 0, 9)
	has(t, c, 0, 9, 10, topIP)
	own(t, c, 9, false)
	own(t, c, 9, false)
	own(t, c, 11, false)
	has(t, c, 0, 10, topIP)
	own(t, c, 12, true)
	own(t, c, 12, true)
	own(t, c, 9, true)
	has(t, c, 0, 9, 10, 12, topIP)
	for _, n := range append([]int{topIP + 1}, farNumbers...) {
		for _, have := range []bool{true, false} {
			if e := c.Own(n, have); e != api.ErrRange {
				t.Errorf("Own(%d, %v): %d", n, have, e)
			}
		}
	}
	has(t, c, 0, 9, 10, 12, topIP)
	for _, ip := range []int{0, topIP, 10, 9, 12} {
		own(t, c, ip, false)
	}
	has(t, c)
	own(t, c, topIP, true)
	own(t, c, 0, true)
	has(t, c, 0, topIP)
}

// 11.1: Look, at the edges of the age, and at ticks and of numbers that are none.
func TestLook(t *testing.T) {
	c := made(t, plain, 10)
	answers(t, c, asks(7, 11, 10), 5, api.Arp{Op: api.ArpTell, FromMac: 2, FromIP: 10, ToMac: 7, ToIP: 11})
	for _, now := range []int{5, 6, 24, 4, 0, -1, math.MinInt, math.MinInt + 1} {
		knows(t, c, 11, now, 7)
	}
	for _, now := range []int{25, 26, api.MaxTick, api.MaxTick + 1, math.MaxInt - 1, math.MaxInt} {
		stranger(t, c, 11, now)
	}
	for _, n := range append([]int{0, 7, 10, 12, topIP, topIP + 1, 11 + 1<<32}, farNumbers...) {
		stranger(t, c, n, 5)
	}
	// To look at a late tick lets nothing go, and is none of the ticks that others follow.
	goes(t, c, 11, 5, 7)
	goes(t, c, 11, 24, 7)
	waits(t, c, 1, 11, 25, question(10, 11))
}

// 11.1: the shortest age, and the longest one.
func TestAge(t *testing.T) {
	short, long := plain, plain
	short.Age, long.Age = 1, 1<<20
	a, b := made(t, short, 10), made(t, long, 10)
	for _, c := range []*neigh.Cache{a, b} {
		waits(t, c, 1, 11, 0, question(10, 11))
		takes(t, c, says(7, 11), 0, 1)
		goes(t, c, 11, 0, 7)
	}
	waits(t, a, 1, 11, 1, question(10, 11))
	goes(t, b, 11, 1<<20-1, 7)
	waits(t, b, 1, 11, 1<<20, question(10, 11))
	takes(t, a, says(7, 11), api.MaxTick, 1)
	goes(t, a, 11, api.MaxTick, 7)
	stranger(t, a, 11, api.MaxTick+1)
}

// The example of the chapter.
func TestExample(t *testing.T) {
	c := made(t, plain, 10)
	waits(t, c, 1, 11, 0, question(10, 11))
	takes(t, c, api.Arp{Op: api.ArpTell, FromMac: 7, FromIP: 11, ToMac: 2, ToIP: 10}, 0, 1)
	goes(t, c, 11, 0, 7)
}

// 11.2: a question comes with the first packet that waits for a neighbour, by the first one of the addresses that it has then.
func TestQuestions(t *testing.T) {
	s := plain
	s.Waits = 9
	c := made(t, s)
	waits(t, c, 1, 11, 0, question(0, 11))
	own(t, c, 10, true)
	waits(t, c, 2, 11, 0, api.Arp{})
	waits(t, c, 3, 12, 1, question(10, 12))
	own(t, c, 30, true)
	waits(t, c, 4, 13, 1, question(10, 13))
	own(t, c, 9, true)
	waits(t, c, 5, 0, 2, question(9, 0))
	waits(t, c, 6, topIP, 2, question(9, topIP))
	waits(t, c, 7, 0, 2, api.Arp{})
	own(t, c, 9, false)
	own(t, c, 10, false)
	waits(t, c, 8, 30, 3, question(30, 30))
	ticks(t, c, 5, questions(30, 11, 12, 13))
	own(t, c, 30, false)
	ticks(t, c, 6, questions(0, 0, topIP))
	takes(t, c, says(7, 11), 6, 1, 2)
	takes(t, c, says(7, 0), 6, 5, 7)
	own(t, c, 8, true)
	waits(t, c, 1, 0, 6, question(8, 0))
}

// 11.2: packets wait up to the room for all neighbours together; what comes out, or is lost, makes room.
func TestFull(t *testing.T) {
	c := made(t, plain, 10)
	waits(t, c, 1, 11, 0, question(10, 11))
	waits(t, c, 2, 12, 0, question(10, 12))
	waits(t, c, 3, 11, 0, api.Arp{})
	for _, to := range []int{11, 12, 13, 0} {
		sendRefused(t, c, packet(9), to, 0, api.ErrFull)
	}
	takes(t, c, says(7, 11), 1, 1, 3)
	goes(t, c, 11, 1, 7)
	waits(t, c, 4, 13, 1, question(10, 13))
	waits(t, c, 5, 12, 1, api.Arp{})
	sendRefused(t, c, packet(9), 13, 1, api.ErrFull)
	goes(t, c, 11, 1, 7)
	ticks(t, c, 5, questions(10, 12, 13))
	sendRefused(t, c, packet(9), 13, 5, api.ErrFull)
	ticks(t, c, 9, nil, 2, 5, 4)
	waits(t, c, 6, 13, 9, question(10, 13))
	waits(t, c, 7, 13, 9, api.Arp{})
	waits(t, c, 8, 13, 9, api.Arp{})
	sendRefused(t, c, packet(9), 12, 9, api.ErrFull)
}

// 11.2: as many as may wait, for one and for many.
func TestMostWaits(t *testing.T) {
	s := plain
	s.Waits = api.MaxItems
	one, many := made(t, s, 10), made(t, s, 10)
	var numbers []int
	for i := range api.MaxItems {
		ask := api.Arp{}
		if i == 0 {
			ask = question(10, 11)
		}
		waits(t, one, i, 11, i, ask)
		waits(t, many, i, topIP-i, i, question(10, topIP-i))
		numbers = append(numbers, i)
	}
	sendRefused(t, one, packet(0), 11, 1024, api.ErrFull)
	sendRefused(t, many, packet(0), 11, 1024, api.ErrFull)
	takes(t, one, says(7, 11), 1024, numbers...)
	slices.Reverse(numbers)
	var asks []api.Arp
	for _, n := range numbers {
		asks = append(asks, question(10, topIP-n))
	}
	ticks(t, many, 2000, asks)
	ticks(t, many, 2004, nil, numbers...)
	waits(t, many, 1, 11, 2004, question(10, 11))
}

// 11.2: what may not be sent, and of several errors the first one.
func TestSendRefused(t *testing.T) {
	s := plain
	s.Waits = 1
	c := made(t, s, 10)
	waits(t, c, 1, 11, 20, question(10, 11))
	bad := []api.Packet{
		{TTL: -1}, {TTL: 256}, {From: -1}, {To: topIP + 1}, {Proto: 256}, {Ident: 65536}, {Frag: 8192}, {More: true},
		{Options: "123"}, {Options: strings.Repeat("1234", 11)}, {Data: strings.Repeat("x", 65516)}, {Frag: 8191, Data: strings.Repeat("x", 8)},
	}
	for _, p := range bad {
		for _, to := range []int{11, -1} {
			for _, now := range []int{20, 19, 40, -1} {
				sendRefused(t, c, p, to, now, api.ErrIP)
			}
		}
	}
	for _, to := range append([]int{topIP + 1, topIP + 12}, farNumbers...) {
		sendRefused(t, c, packet(1), to, 20, api.ErrRange)
		sendRefused(t, c, packet(1), to, 40, api.ErrRange)
	}
	for _, now := range append([]int{19, 1, 0}, noTicks...) {
		sendRefused(t, c, packet(1), 11, now, api.ErrRange)
	}
	// None of these waits, was asked for, or moved the tick on.
	sendRefused(t, c, packet(2), 12, 20, api.ErrFull)
	takes(t, c, says(7, 11), 20, 1)
	ticks(t, c, 39, nil)
}

// 11.2, 11.3, 11.4: no tick lies below that of a call that was not refused for it, whatever else it was refused for.
func TestTicksGoOn(t *testing.T) {
	moves := map[string]func(c *neigh.Cache, now int) api.Code{
		"wait":  func(c *neigh.Cache, now int) api.Code { _, _, e := c.Send(packet(1), 11, now); return e },
		"full":  func(c *neigh.Cache, now int) api.Code { _, _, e := c.Send(packet(1), 12, now); return e },
		"take":  func(c *neigh.Cache, now int) api.Code { _, _, _, e := c.Take(says(7, 11), now); return e },
		"send":  func(c *neigh.Cache, now int) api.Code { _, _, e := c.Send(packet(1), 11, now); return e },
		"there": func(c *neigh.Cache, now int) api.Code { _, _, _, e := c.Take(says(7, 10), now); return e },
		"tick":  func(c *neigh.Cache, now int) api.Code { _, _, e := c.Tick(now); return e },
	}
	s := plain
	s.Waits = 1
	c := made(t, s, 10)
	for i, x := range []struct {
		name string
		want api.Code
	}{
		{"wait", api.ErrWait}, {"full", api.ErrFull}, {"take", api.OK}, {"send", api.OK}, {"there", api.ErrThere}, {"tick", api.OK},
	} {
		now := 3 * (i + 1)
		for _, late := range noTicks {
			sendRefused(t, c, packet(9), 11, late, api.ErrRange)
			takeRefused(t, c, says(7, 10), late, api.ErrRange)
			tickRefused(t, c, late)
		}
		if e := moves[x.name](c, now); e != x.want {
			t.Errorf("%s: %d", x.name, e)
		}
		for _, early := range []int{now - 1, 0} {
			sendRefused(t, c, packet(9), 11, early, api.ErrRange)
			takeRefused(t, c, says(7, 10), early, api.ErrRange)
			tickRefused(t, c, early)
		}
		ticks(t, c, now, nil)
	}
}

// 11.2: the ticks of a new cache.
func TestFirstTick(t *testing.T) {
	for _, now := range []int{0, 1, api.MaxTick} {
		c := made(t, plain, 10)
		tickRefused(t, c, -1)
		waits(t, c, 1, 11, now, question(10, 11))
		takes(t, c, says(7, 11), now, 1)
		ticks(t, c, now, nil)
		tickRefused(t, c, now-1)
	}
}

// 11.3: of whom something is learnt: one that is known, one that is waited for, one that asks for an own address.
func TestLearn(t *testing.T) {
	c := made(t, plain, 10, 9)
	takes(t, c, says(7, 11), 0)
	takes(t, c, asks(7, 11, 12), 0)
	takes(t, c, asks(7, 11, 11), 0)
	takes(t, c, api.Arp{Op: api.ArpTell, FromMac: 7, FromIP: 11, ToMac: 2, ToIP: 10}, 0)
	stranger(t, c, 11, 0)
	answers(t, c, asks(7, 11, 9), 1, api.Arp{Op: api.ArpTell, FromMac: 2, FromIP: 9, ToMac: 7, ToIP: 11})
	knows(t, c, 11, 1, 7)
	// One that is known is known by what it says last, from then on.
	takes(t, c, says(8, 11), 5)
	knows(t, c, 11, 24, 8)
	stranger(t, c, 11, 25)
	takes(t, c, asks(6, 11, 12), 10)
	knows(t, c, 11, 29, 6)
	takes(t, c, asks(5, 11, 11), 29)
	knows(t, c, 11, 48, 5)
	// One that is forgotten is as good as never heard of.
	takes(t, c, says(5, 11), 49)
	stranger(t, c, 11, 49)
	waits(t, c, 1, 11, 50, question(9, 11))
	takes(t, c, asks(4, 11, 12), 50, 1)
	knows(t, c, 11, 69, 4)
	stranger(t, c, 11, 70)
}

// 11.3: questions for own addresses are answered, with what waited for who asked.
func TestAnswer(t *testing.T) {
	c := made(t, plain, 10, 9)
	told := func(from, mac, to int) api.Arp {
		return api.Arp{Op: api.ArpTell, FromMac: 2, FromIP: from, ToMac: mac, ToIP: to}
	}
	waits(t, c, 1, 11, 0, question(9, 11))
	waits(t, c, 2, 12, 0, question(9, 12))
	waits(t, c, 3, 11, 0, api.Arp{})
	answers(t, c, asks(7, 11, 10), 1, told(10, 7, 11), 1, 3)
	answers(t, c, asks(7, 11, 10), 1, told(10, 7, 11))
	answers(t, c, api.Arp{Op: api.ArpAsk, FromMac: 7, FromIP: 11, ToMac: 55, ToIP: 9}, 1, told(9, 7, 11))
	takes(t, c, asks(7, 11, 8), 1)
	own(t, c, 8, true)
	answers(t, c, asks(7, 11, 8), 1, told(8, 7, 11))
	own(t, c, 10, false)
	takes(t, c, asks(7, 11, 10), 1)
	// A hardware address of 0 is one, too.
	answers(t, c, asks(0, 12, 9), 1, told(9, 0, 12), 2)
	knows(t, c, 12, 1, 0)
	goes(t, c, 12, 1, 0)
}

// 11.3: FromIP 0 is never known, but it is answered, and what waits for it comes out.
func TestNoSender(t *testing.T) {
	s := plain
	s.Room = 1
	c := made(t, s, 10)
	answers(t, c, asks(7, 11, 10), 0, api.Arp{Op: api.ArpTell, FromMac: 2, FromIP: 10, ToMac: 7, ToIP: 11})
	answers(t, c, asks(8, 0, 10), 1, api.Arp{Op: api.ArpTell, FromMac: 2, FromIP: 10, ToMac: 8})
	stranger(t, c, 0, 1)
	waits(t, c, 1, 0, 1, question(10, 0))
	takes(t, c, says(8, 0), 1, 1)
	stranger(t, c, 0, 1)
	takes(t, c, says(8, 0), 1)
	waits(t, c, 2, 0, 1, question(10, 0))
	// Nobody went for it.
	knows(t, c, 11, 1, 7)
}

// 11.3: somebody else claims an own address: nothing else happens.
func TestThere(t *testing.T) {
	c := made(t, plain, 10, 9, 0)
	waits(t, c, 1, 10, 0, question(0, 10))
	for _, a := range []api.Arp{asks(5, 10, 10), asks(5, 10, 9), asks(5, 9, 11), says(5, 10), says(0, 9), says(5, 0), asks(api.Everyone-group, 0, 9)} {
		takeRefused(t, c, a, 0, api.ErrThere)
		stranger(t, c, a.FromIP, 0)
	}
	// What it says itself is no claim of somebody else.
	answers(t, c, asks(2, 10, 9), 0, api.Arp{Op: api.ArpTell, FromMac: 2, FromIP: 9, ToMac: 2, ToIP: 10}, 1)
	knows(t, c, 10, 0, 2)
	takes(t, c, says(2, 9), 0)
	stranger(t, c, 9, 0)
	takeRefused(t, c, says(5, 10), 9, api.ErrThere)
	knows(t, c, 10, 19, 2)
	stranger(t, c, 10, 20)
	// What is its own no more may be another's; what becomes its own may not.
	own(t, c, 10, false)
	takes(t, c, says(5, 10), 10)
	knows(t, c, 10, 10, 5)
	own(t, c, 10, true)
	takeRefused(t, c, says(5, 10), 10, api.ErrThere)
	knows(t, c, 10, 10, 5)
}

// 11.3: without room the one that was told longest ago goes, of several the least address.
func TestRoom(t *testing.T) {
	s := plain
	s.Room = 3
	c := made(t, s, 10)
	learn := func(ip, now int) {
		t.Helper()
		answers(t, c, asks(100+ip, ip, 10), now, api.Arp{Op: api.ArpTell, FromMac: 2, FromIP: 10, ToMac: 100 + ip, ToIP: ip})
	}
	known := func(now int, want ...int) {
		t.Helper()
		for ip := range 40 {
			if slices.Contains(want, ip) {
				knows(t, c, ip, now, 100+ip)
			} else {
				stranger(t, c, ip, now)
			}
		}
	}
	learn(13, 0)
	learn(11, 0)
	learn(12, 1)
	known(1, 11, 12, 13)
	learn(13, 1)
	known(1, 11, 12, 13)
	learn(14, 1)
	known(1, 12, 13, 14)
	learn(11, 2)
	known(2, 11, 13, 14)
	// To be looked up is not to be told.
	goes(t, c, 13, 3, 113)
	learn(15, 3)
	known(3, 11, 14, 15)
	waits(t, c, 1, 12, 3, question(10, 12))
	takes(t, c, says(112, 12), 3, 1)
	known(3, 11, 12, 15)
	// What is forgotten, 12 and 15 from 23 on, takes no room.
	learn(11, 4)
	learn(20, 23)
	learn(21, 23)
	known(23, 11, 20, 21)
	learn(12, 23)
	known(23, 12, 20, 21)
	// One that was forgotten comes again, and nobody goes for it.
	learn(20, 30)
	learn(12, 43)
	learn(21, 43)
	known(43, 12, 20, 21)
}

// 11.3: those who are asked for take no room of those who are known, nor do these take that of packets.
func TestRoomsApart(t *testing.T) {
	s := plain
	s.Room, s.Waits = 1, 2
	c := made(t, s, 10)
	waits(t, c, 1, 11, 0, question(10, 11))
	waits(t, c, 2, 12, 0, question(10, 12))
	takes(t, c, says(7, 12), 0, 2)
	knows(t, c, 12, 0, 7)
	waits(t, c, 3, 13, 0, question(10, 13))
	takes(t, c, says(8, 11), 0, 1)
	knows(t, c, 11, 0, 8)
	stranger(t, c, 12, 0)
}

// 11.3: as much room as there may be.
func TestMostRoom(t *testing.T) {
	s := plain
	s.Age, s.Room = 1<<20, api.MaxItems
	c := made(t, s, 10)
	for i := range api.MaxItems + 1 {
		c.Take(asks(i, 5000-i, 10), i)
	}
	stranger(t, c, 5000, 1024)
	for i := range api.MaxItems {
		knows(t, c, 4999-i, 1024, i+1)
	}
}

// 11.3: what may not be taken, and of several errors the first one.
func TestTakeRefused(t *testing.T) {
	c := made(t, plain, 10)
	waits(t, c, 1, 11, 20, question(10, 11))
	bad := []api.Arp{{}, {Op: 3, FromIP: 11}, {Op: api.ArpTell, FromMac: group, FromIP: 11}, {Op: api.ArpTell, FromMac: api.Everyone, FromIP: 10}}
	for _, n := range farNumbers {
		bad = append(bad, says(n, 11), asks(7, n, 10), asks(7, 11, n), api.Arp{Op: api.ArpTell, FromMac: 7, FromIP: 11, ToMac: n}, api.Arp{Op: n, FromMac: 7, FromIP: 11})
	}
	for _, a := range bad {
		for _, now := range []int{20, 19, 40, -1, api.MaxTick + 1} {
			takeRefused(t, c, a, now, api.ErrArp)
		}
	}
	for _, now := range append([]int{19, 0}, noTicks...) {
		takeRefused(t, c, says(7, 11), now, api.ErrRange)
		takeRefused(t, c, says(7, 10), now, api.ErrRange)
	}
	// None of these let anything out, told anything, or moved the tick on.
	stranger(t, c, 11, 20)
	takes(t, c, says(7, 11), 20, 1)
}

// 11.4: the question again after its patience's ticks, then what waits is lost, at the edges.
func TestTick(t *testing.T) {
	c := made(t, plain, 10)
	waits(t, c, 1, 12, 0, question(10, 12))
	waits(t, c, 2, 11, 1, question(10, 11))
	ticks(t, c, 3, nil)
	// What waits later does not ask again.
	waits(t, c, 3, 12, 3, api.Arp{})
	ticks(t, c, 4, questions(10, 12))
	ticks(t, c, 4, nil)
	ticks(t, c, 7, questions(10, 11))
	ticks(t, c, 8, nil, 1, 3)
	ticks(t, c, 8, nil)
	takes(t, c, says(7, 12), 8)
	stranger(t, c, 12, 8)
	// One that was given up is asked for anew, for the first time.
	waits(t, c, 4, 12, 9, question(10, 12))
	ticks(t, c, 12, nil, 2)
	ticks(t, c, 13, questions(10, 12))
	takes(t, c, says(7, 12), 16, 4)
	ticks(t, c, 17, nil)
	goes(t, c, 12, 17, 7)
	for _, now := range append([]int{16, 0}, noTicks...) {
		tickRefused(t, c, now)
	}
	ticks(t, c, 17, nil)
}

// 11.4: a Tick that comes late asks or loses once only, of each neighbour by its own count, by their addresses rising.
func TestLateTick(t *testing.T) {
	s := plain
	s.Waits = 10
	c := made(t, s, 10)
	for i, to := range []int{topIP, 3, 14, 0, 8} {
		waits(t, c, i, to, 0, question(10, to))
	}
	waits(t, c, 5, 3, 0, api.Arp{})
	ticks(t, c, 1000, questions(10, 0, 3, 8, 14, topIP))
	takes(t, c, says(7, 8), 1001, 4)
	waits(t, c, 6, 9, 1002, question(10, 9))
	waits(t, c, 7, 2, 1003, question(10, 2))
	waits(t, c, 8, 14, 1003, api.Arp{})
	ticks(t, c, 1003, nil)
	ticks(t, c, 1006, questions(10, 9), 3, 1, 5, 2, 8, 0)
	ticks(t, c, api.MaxTick, questions(10, 2), 6)
	ticks(t, c, api.MaxTick, nil)
	takes(t, c, says(7, 2), api.MaxTick, 7)
}

// 11.4: the shortest patience, and the longest one.
func TestPatience(t *testing.T) {
	short, long := plain, plain
	short.Patience, long.Patience = 1, 1<<20
	a, b := made(t, short, 10), made(t, long, 10)
	waits(t, a, 1, 11, 0, question(10, 11))
	waits(t, b, 1, 11, 0, question(10, 11))
	ticks(t, a, 0, nil)
	ticks(t, a, 1, questions(10, 11))
	ticks(t, a, 1, nil)
	ticks(t, a, 2, nil, 1)
	ticks(t, b, 1<<20-1, nil)
	ticks(t, b, 1<<20, questions(10, 11))
	ticks(t, b, 1<<21-1, nil)
	ticks(t, b, 1<<21, nil, 1)
}

// R4, R7: what is handed in is not changed or kept, answers are new memory, and caches know nothing of each other.
func TestOwnMemory(t *testing.T) {
	room := []int{10, 9, 10, 77, 78}
	given := room[:3]
	s := plain
	s.Waits = 9
	a, b := made(t, s, given...), made(t, s, given...)
	if !slices.Equal(room, []int{10, 9, 10, 77, 78}) {
		t.Errorf("New changed what it was given: %v", room)
	}
	scribble(room, -9)
	scribble(a.Mine(), -9)
	own(t, a, 12, true)
	scribble(a.Mine(), -9)
	has(t, a, 9, 10, 12)
	has(t, b, 9, 10)
	for i := range 3 {
		a.Send(packet(i), 11, 0)
		a.Send(packet(3+i), 13, 0)
	}
	_, out, _, _ := a.Take(says(7, 11), 0)
	scribble(out, packet(99))
	for i := range 3 {
		a.Send(packet(6+i), 14, 0)
	}
	asks, lost, _ := a.Tick(4)
	scribble(asks, api.Arp{})
	scribble(lost, packet(99))
	asks, lost, _ = a.Tick(8)
	scribble(asks, api.Arp{})
	if !slices.Equal(lost, packets(3, 4, 5, 6, 7, 8)) || !slices.Equal(out[:3], packets(99, 99, 99)) {
		t.Errorf("lost %v", lost)
	}
	scribble(lost, packet(99))
	waits(t, a, 1, 13, 8, question(9, 13))
	takes(t, a, says(7, 13), 8, 1)
	stranger(t, b, 11, 0)
	ticks(t, b, 0, nil)
}

// scribble writes over a list, and over its spare room.
func scribble[T any](list []T, x T) {
	list = list[:cap(list)]
	for i := range list {
		list[i] = x
	}
}

// 11.2, 11.4: questions, packets and answers are such as the layers below take.
func TestMayBe(t *testing.T) {
	s := plain
	s.Mac = api.Everyone - group
	c := made(t, s, topIP)
	big := api.Packet{From: topIP, To: topIP, TTL: 255, Proto: 255, Ident: 65535, Options: strings.Repeat("x", 40), Data: strings.Repeat("y", 65475)}
	_, ask, e := c.Send(big, topIP, api.MaxTick)
	if e != api.ErrWait || arp.Check(ask) != api.OK {
		t.Errorf("Send: %v, %d", ask, e)
	}
	answer, out, mac, e := c.Take(ask, api.MaxTick)
	if e != api.OK || arp.Check(answer) != api.OK || mac != s.Mac || len(out) != 1 || out[0] != big || ip.Check(out[0]) != api.OK {
		t.Errorf("Take: %v, %d packets, %d, %d", answer, len(out), mac, e)
	}
}
