package host_test

import (
	"math"
	"slices"
	"testing"

	"sternpost/api"
	"sternpost/arp"
	"sternpost/conn"
	"sternpost/ether"
	"sternpost/host"
	"sternpost/icmp"
	"sternpost/ip"
	"sternpost/neigh"
	"sternpost/seg"
	"sternpost/table"
)

const (
	mostIP   = 1<<32 - 1
	mostPair = 1<<16 - 1
	firstTag = 1 << 20 // of the server's own requests
	firstOwn = 49152   // the first port from which one opens
)

// The host's own addresses, and those of another one.
const (
	here, hereMac   = 11, 13
	there, thereMac = 10, 12
	port            = 80
)

var set = host.Setup{
	Mac: hereMac, IP: here, Port: port,
	Neigh: neigh.Setup{Mac: hereMac, Age: 100, Patience: 4, Room: 9, Waits: 3},
	Room:  2, Patience: 9,
	Table: table.Setup{
		Conn: conn.Setup{MSS: 700, Room: 2000, Delay: 0, First: 8, Least: 4, Most: 40, Tries: 2, Linger: 10},
		Key:  7, Backlog: 3, Room: 6,
	},
}

// noIPs are numbers that are no addresses of IPv4.
var noIPs = []int{-1, -here, mostIP + 1, mostIP + 1 + here, math.MinInt, math.MaxInt}

// noPairs are numbers that have more than two bytes.
var noPairs = []int{-1, -80, mostPair + 1, mostPair + 1 + 80, 1<<32 + 80, math.MinInt, math.MaxInt}

// noTicks are numbers that are no ticks.
var noTicks = []int{-1, -2, api.MaxTick + 1, math.MinInt, math.MaxInt}

// bytesOf is a frame's bytes, as it is from somebody.
func bytesOf(from, to, kind int, data string) string {
	s, e := ether.Encode(api.Frame{To: to, From: from, Type: kind, Data: data})
	if e != api.OK {
		panic("a frame that may not be")
	}
	return s
}

// arpOf is a frame with an ARP packet.
func arpOf(from, to int, a api.Arp) string {
	s, e := arp.Encode(a)
	if e != api.OK {
		panic("an ARP packet that may not be")
	}
	return bytesOf(from, to, api.TypeArp, s)
}

// packetOf is a frame with a packet.
func packetOf(from, to int, p api.Packet) string {
	s, e := ip.Encode(p)
	if e != api.OK {
		panic("a packet that may not be")
	}
	return bytesOf(from, to, api.TypeIP, s)
}

// comes is a frame with a packet that comes from there.
func comes(p api.Packet) string { return packetOf(thereMac, hereMac, p) }

// goes is the frame of the packet that the host sends as its ident-th, to there.
func goes(ident, from, proto int, data string) string {
	return packetOf(hereMac, thereMac, sent(ident, from, there, proto, data))
}

// sent is a packet as the host sends it, if it need not be cut.
func sent(ident, from, to, proto int, data string) api.Packet {
	return api.Packet{From: from, To: to, TTL: 64, Proto: proto, Ident: ident, Dont: true, Data: data}
}

func icmpOf(m api.Icmp) string {
	s, e := icmp.Encode(m)
	if e != api.OK {
		panic("an ICMP packet that may not be")
	}
	return s
}

func segOf(from, to int, s api.Segment) string {
	b, e := seg.Encode(from, to, s)
	if e != api.OK {
		panic("a segment that may not be")
	}
	return b
}

// asks is the frame by which the host asks who has an address.
func asks(want int) string { return asksBy(here, want) }

func asksBy(own, want int) string {
	return arpOf(hereMac, api.Everyone, api.Arp{Op: api.ArpAsk, FromMac: hereMac, FromIP: own, ToIP: want})
}

// tells is the frame by which there tells the host its hardware address.
func tells() string {
	return arpOf(thereMac, hereMac, api.Arp{Op: api.ArpTell, FromMac: thereMac, FromIP: there, ToMac: hereMac, ToIP: here})
}

// echo is the packet by which there asks for an echo.
func echo(to, a, b int, data string) api.Packet {
	return api.Packet{From: there, To: to, TTL: 9, Proto: api.ProtoIcmp, Ident: 5, Data: icmpOf(api.Icmp{Type: 8, A: a, B: b, Data: data})}
}

// strange is a packet of a protocol that is none of the host's.
func strange(to int, data string) api.Packet {
	return api.Packet{From: there, To: to, TTL: 9, Proto: 17, Ident: 5, Data: data}
}

// side is a host under test.
type side struct {
	t *testing.T
	x *host.Host
}

// made is a host that may not be refused.
func made(t *testing.T, s host.Setup) side {
	t.Helper()
	x, e := host.New(s)
	if e != api.OK || x == nil {
		t.Fatalf("New(%+v): %v, %d", s, x, e)
	}
	return side{t, x}
}

// knowing is a host that knows the one there, at the tick 0.
func knowing(t *testing.T, s host.Setup) side {
	t.Helper()
	x := made(t, s)
	x.frame(arpOf(thereMac, api.Everyone, api.Arp{Op: api.ArpAsk, FromMac: thereMac, FromIP: there, ToIP: here}), 0, nil,
		arpOf(hereMac, thereMac, api.Arp{Op: api.ArpTell, FromMac: hereMac, FromIP: here, ToMac: thereMac, ToIP: there}))
	return x
}

func (s side) is(what string, done, wantDone []api.Done, out, want []string) {
	s.t.Helper()
	if !slices.Equal(done, wantDone) {
		s.t.Fatalf("%s: %+v, want %+v", what, done, wantDone)
	}
	if !slices.Equal(out, want) {
		s.t.Fatalf("%s:\n%q, want\n%q", what, out, want)
	}
}

func (s side) frame(f string, now int, done []api.Done, want ...string) {
	s.t.Helper()
	d, out := s.x.Frame(f, now)
	s.is("Frame", d, done, out, want)
}

func (s side) tick(now int, done []api.Done, want ...string) {
	s.t.Helper()
	d, out := s.x.Tick(now)
	s.is("Tick", d, done, out, want)
}

func (s side) ask(r api.Request, now int, done []api.Done, want ...string) {
	s.t.Helper()
	d, out := s.x.Ask(r, now)
	s.is("Ask", d, done, out, want)
}

func (s side) ping(to, a, b, now int, want ...string) {
	s.t.Helper()
	s.is("Ping", nil, nil, s.x.Ping(to, a, b, now), want)
}

func (s side) now(want int) {
	s.t.Helper()
	if n := s.x.Now(); n != want {
		s.t.Fatalf("Now: %d, want %d", n, want)
	}
}

func (s side) echoes(want int) {
	s.t.Helper()
	if n := s.x.Echoes(); n != want {
		s.t.Fatalf("Echoes: %d, want %d", n, want)
	}
}

func (s side) sessions(want int) {
	s.t.Helper()
	if n := s.x.Sessions(); n != want {
		s.t.Fatalf("Sessions: %d, want %d", n, want)
	}
}

func (s side) waiting(want ...int) {
	s.t.Helper()
	if l := s.x.Waiting(); !slices.Equal(l, want) {
		s.t.Fatalf("Waiting: %v, want %v", l, want)
	}
}

// did is what requests came to.
func did(l ...api.Done) []api.Done { return l }

// with is the setup, changed.
func with(change func(*host.Setup)) host.Setup {
	s := set
	change(&s)
	return s
}

// 22.1: what is refused of a setup, the first thing that is wrong first.
func TestNewRefuses(t *testing.T) {
	type refused struct {
		change func(*host.Setup)
		e      api.Code
	}
	var l []refused
	for _, n := range noPairs {
		l = append(l, refused{func(s *host.Setup) { s.Port = n }, api.ErrRange})
	}
	for _, n := range noIPs {
		l = append(l, refused{func(s *host.Setup) { s.IP = n }, api.ErrRange})
	}
	for _, n := range []int{0, hereMac + 1, -1, api.Everyone + 1 + hereMac, math.MinInt} {
		l = append(l, refused{func(s *host.Setup) { s.Neigh.Mac = n }, api.ErrShape}, refused{func(s *host.Setup) { s.Mac = n }, api.ErrShape})
	}
	for _, n := range []int{-1, api.Everyone, api.Everyone + 1, 1 << 40, 1<<40 | 7, math.MinInt, math.MaxInt} {
		l = append(l, refused{func(s *host.Setup) { s.Mac, s.Neigh.Mac = n, n }, api.ErrRange})
	}
	for _, n := range []int{0, -1, math.MinInt, math.MaxInt} {
		l = append(l, refused{func(s *host.Setup) { s.Neigh.Age = n }, api.ErrRange}, refused{func(s *host.Setup) { s.Neigh.Waits = n }, api.ErrRange},
			refused{func(s *host.Setup) { s.Room = n }, api.ErrRange}, refused{func(s *host.Setup) { s.Patience = n }, api.ErrRange},
			refused{func(s *host.Setup) { s.Table.Room = n }, api.ErrRange}, refused{func(s *host.Setup) { s.Table.Conn.MSS = n }, api.ErrRange})
	}
	l = append(l, refused{func(s *host.Setup) { s.Room = 65 }, api.ErrRange}, refused{func(s *host.Setup) { s.Patience = 1<<20 + 1 }, api.ErrRange},
		refused{func(s *host.Setup) { s.Port, s.Mac = -1, 0 }, api.ErrRange}, refused{func(s *host.Setup) { s.Mac, s.IP, s.Room, s.Table.Room = 0, -1, 0, 0 }, api.ErrShape})
	for _, r := range l {
		s := with(r.change)
		if x, e := host.New(s); x != nil || e != r.e {
			t.Errorf("New(%+v): %v, %d, want %d", s, x, e, r.e)
		}
	}
}

// 22.1: a host at the tick 0, at the least and the greatest that may be.
func TestNew(t *testing.T) {
	for _, change := range []func(*host.Setup){
		func(*host.Setup) {},
		func(s *host.Setup) { s.Port = 0 },
		func(s *host.Setup) { s.Port = 1 },
		func(s *host.Setup) { s.Port = mostPair },
		func(s *host.Setup) { s.IP, s.Mac, s.Neigh.Mac = 0, 0, 0 },
		func(s *host.Setup) { s.IP, s.Mac, s.Neigh.Mac = mostIP, api.Everyone-1<<40, api.Everyone-1<<40 },
		func(s *host.Setup) { s.Room, s.Patience = 1, 1 },
		func(s *host.Setup) { s.Room, s.Patience = 64, 1<<20 },
	} {
		x := made(t, with(change))
		x.now(0)
		x.echoes(0)
		x.sessions(0)
		x.waiting()
	}
}

// 22.1: the server is at its port; without one there is none, at the port 0 neither.
func TestNewServes(t *testing.T) {
	syn := func(to int) string {
		return comes(api.Packet{From: there, To: here, TTL: 9, Proto: api.ProtoTcp, Data: segOf(there, here, api.Segment{From: 5, To: to, Seq: 7, Flags: api.SYN, Window: 9})})
	}
	reset := func(from int) string {
		return goes(0, here, api.ProtoTcp, segOf(here, there, api.Segment{From: from, To: 5, Ack: 8, Flags: api.RST | api.ACK}))
	}
	x := knowing(t, set)
	_, out := x.x.Frame(syn(port), 0)
	if len(out) != 1 || out[0] == reset(port) {
		t.Errorf("a SYN for the server: %q", out)
	}
	knowing(t, set).frame(syn(port+1), 0, nil, reset(port+1))
	none := with(func(s *host.Setup) { s.Port = 0 })
	knowing(t, none).frame(syn(port), 0, nil, reset(port))
	knowing(t, none).frame(syn(0), 0, nil, reset(0))
}

// 22.1: what is its own: of that ARP is answered, and packets to it are taken.
func TestOwn(t *testing.T) {
	x := knowing(t, set)
	question := func(want int) string {
		return arpOf(thereMac, api.Everyone, api.Arp{Op: api.ArpAsk, FromMac: thereMac, FromIP: there, ToIP: want})
	}
	answer := func(of int) string {
		return arpOf(hereMac, thereMac, api.Arp{Op: api.ArpTell, FromMac: hereMac, FromIP: of, ToMac: thereMac, ToIP: there})
	}
	own := func(ip int, have bool, want api.Code) {
		t.Helper()
		if e := x.x.Own(ip, have); e != want {
			t.Fatalf("Own(%d, %v): %d, want %d", ip, have, e, want)
		}
	}
	pong := func(ident, from int) string {
		return goes(ident, from, api.ProtoIcmp, icmpOf(api.Icmp{A: 1, B: 2, Data: "x"}))
	}
	x.frame(question(99), 0, nil)
	x.frame(comes(echo(99, 1, 2, "x")), 0, nil)
	own(99, false, api.OK)
	own(99, true, api.OK)
	own(99, true, api.OK)
	own(here, true, api.OK)
	x.frame(question(99), 0, nil, answer(99))
	x.frame(question(here), 0, nil, answer(here))
	x.frame(comes(echo(99, 1, 2, "x")), 0, nil, pong(0, 99))
	own(here, false, api.ErrShape)
	for _, n := range noIPs {
		own(n, true, api.ErrRange)
		own(n, false, api.ErrRange)
	}
	x.frame(comes(echo(here, 1, 2, "x")), 0, nil, pong(1, here))
	own(99, false, api.OK)
	x.frame(question(99), 0, nil)
	x.frame(comes(echo(99, 1, 2, "x")), 0, nil)
	x.frame(question(here), 0, nil, answer(here))
	for i, n := range []int{0, mostIP} {
		own(n, true, api.OK)
		x.frame(comes(echo(n, 1, 2, "x")), 0, nil, pong(2+i, n))
	}
	x.now(0)
}

// 22.1: the cache asks by the least address of its own.
func TestOwnAsks(t *testing.T) {
	x := made(t, set)
	x.x.Own(5, true)
	x.x.Own(50, true)
	x.ping(there, 1, 2, 0, asksBy(5, there))
	x.x.Own(5, false)
	x.tick(4, nil, asksBy(here, there))
}

// 22.1: who claims an address of its own is not learnt of, nor answered.
func TestOwnIsClaimed(t *testing.T) {
	x := made(t, set)
	x.x.Own(99, true)
	for _, ip := range []int{here, 99} {
		x.frame(arpOf(thereMac, api.Everyone, api.Arp{Op: api.ArpAsk, FromMac: thereMac, FromIP: ip, ToIP: here}), 3, nil)
	}
	x.now(3)
	x.ping(99, 1, 2, 3, asks(99))
}

// 22.1: a claim is a frame to all, whatever the host has.
func TestClaim(t *testing.T) {
	x := made(t, set)
	for _, ip := range []int{here, 99, 0, mostIP} {
		want := arpOf(hereMac, api.Everyone, api.Arp{Op: api.ArpAsk, FromMac: hereMac, FromIP: ip, ToIP: ip})
		if s, e := x.x.Claim(ip); s != want || e != api.OK {
			t.Errorf("Claim(%d): %q, %d, want %q", ip, s, e, want)
		}
	}
	for _, ip := range noIPs {
		if s, e := x.x.Claim(ip); s != "" || e != api.ErrArp {
			t.Errorf("Claim(%d): %q, %d", ip, s, e)
		}
	}
	const bytes = "\xff\xff\xff\xff\xff\xff\x00\x00\x00\x00\x00\x0d\x08\x06\x00\x01\x08\x00\x06\x04\x00\x01" +
		"\x00\x00\x00\x00\x00\x0d\x00\x00\x00\x0b\x00\x00\x00\x00\x00\x00\x00\x00\x00\x0b"
	if s, _ := x.x.Claim(here); s != bytes {
		t.Errorf("Claim: %q, want %q", s, bytes)
	}
	x.now(0)
}

// 22.1: Now is the greatest tick of a call.
func TestNow(t *testing.T) {
	x := made(t, set)
	x.tick(3, nil)
	x.now(3)
	x.tick(3, nil)
	x.frame(tells(), 5, nil)
	x.now(5)
	x.ping(there, 1, 2, 6, asks(there))
	x.now(6)
	x.ask(api.Request{Tag: 1, Kind: api.SStat, FD: 9}, 7, did(api.Done{Tag: 1, Code: api.ErrNone}))
	x.now(7)
	// Below it nothing is heard, whoever is told.
	for _, now := range append([]int{6, 0}, noTicks...) {
		x.frame(tells(), now, nil)
		x.tick(now, nil)
		x.ping(there, 1, 2, now)
		x.ask(api.Request{Tag: 1, Kind: api.SStat, FD: 9}, now, nil)
		x.now(7)
	}
	x.frame(comes(echo(here, 1, 2, "")), 7, nil)
	x.tick(api.MaxTick, nil, asks(there))
	x.now(api.MaxTick)
	x.tick(api.MaxTick, nil)
	x.tick(api.MaxTick+1, nil)
	x.now(api.MaxTick)
}
