package table_test

import (
	"math"
	"slices"
	"testing"

	"sternpost/api"
	"sternpost/conn"
	"sternpost/seg"
	"sternpost/table"
)

const (
	word     = 1<<32 - 1 // the greatest key, and the greatest address
	mostPort = 1<<16 - 1
	firstOwn = 49152
)

// The table's own address, and some of others.
const (
	here  = 11
	there = 10
	yon   = 12
)

var set = table.Setup{
	Conn: conn.Setup{MSS: 20, Room: 60, Delay: 1, First: 8, Least: 4, Most: 40, Tries: 2, Linger: 10},
	Key:  7, Backlog: 2, Room: 6,
}

// noPorts are numbers that are no ports.
var noPorts = []int{0, -1, -80, mostPort + 1, mostPort + 1 + 80, 1<<32 + 80, math.MinInt, math.MinInt + 1, math.MaxInt}

// noWords are numbers that are no addresses, and no keys.
var noWords = []int{-1, -there, word + 1, word + 1 + there, math.MinInt, math.MinInt + 1, math.MaxInt}

// noTicks are numbers that are no ticks.
var noTicks = []int{-1, -2, api.MaxTick + 1, api.MaxTick + 2, math.MinInt, math.MinInt + 1, math.MaxInt}

// noNumbers are numbers that no connection has ahead of the hundredth one.
var noNumbers = []int{0, -1, -2, 100, 1 << 32, 1<<32 + 1, math.MinInt, math.MinInt + 1, math.MaxInt, math.MaxInt - 1}

// first is the first number of a connection, in words of 32 bits.
func first(key int, ends api.Ends, now int) int {
	x := uint32(key)
	for _, n := range []int{ends.IP, ends.Port, ends.FarIP, ends.FarPort} {
		x ^= uint32(n)
		x *= 16777619
	}
	return int(x + uint32(now)<<6)
}

// syn is a segment that opens a connection, without options.
func syn(from, to int) api.Segment {
	return api.Segment{From: from, To: to, Seq: 500, Flags: api.SYN, Window: 100}
}

// far is a segment with ACK that comes, behind the SYN above.
func far(flags, from, to, at, ack int, data string) api.Segment {
	return api.Segment{From: from, To: to, Seq: at, Ack: ack, Flags: flags | api.ACK, Window: 100, Data: data}
}

// own is a segment with ACK that a table sends, of a connection where nothing is to be read.
func own(flags, from, to, at, ack int, data string) api.Segment {
	return api.Segment{From: from, To: to, Seq: at, Ack: ack, Flags: flags | api.ACK, Window: 60, Data: data}
}

// reset is what a table sends if it is done with a connection where nothing is to be read.
func reset(from, to, at int) api.Segment {
	return api.Segment{From: from, To: to, Seq: at, Flags: api.RST, Window: 60}
}

// unknown is what answers a segment with that Ack that came to no connection.
func unknown(from, to, ack int) api.Segment {
	return api.Segment{From: from, To: to, Seq: ack, Flags: api.RST}
}

// shut is what answers the SYN above where nothing listens.
func shut(from, to int) api.Segment {
	return api.Segment{From: from, To: to, Ack: 501, Flags: api.RST | api.ACK}
}

// answer is the SYN by which a table answers one of Seq 500.
func answer(port, farPort, iss int) api.Segment {
	return asked(api.Segment{From: port, To: farPort, Seq: iss, Ack: 501, Flags: api.SYN | api.ACK, Window: 60})
}

// question is the SYN by which a table opens a connection.
func question(port, farPort, iss int) api.Segment {
	return asked(api.Segment{From: port, To: farPort, Seq: iss, Flags: api.SYN, Window: 60})
}

func asked(s api.Segment) api.Segment {
	s.Opts = api.Opts{MSS: 20, SackOK: true}
	return s
}

// to is what goes to an address.
func to(ip int, l ...api.Segment) (out []api.Out) {
	for _, s := range l {
		out = append(out, api.Out{To: ip, S: s})
	}
	return out
}

func same(a, b api.Out) bool { return a.To == b.To && seg.Same(a.S, b.S) }

// side is a table under test.
type side struct {
	t *testing.T
	x *table.Table
}

// made is a table that may not be refused.
func made(t *testing.T, s table.Setup, ip int) side {
	t.Helper()
	x, e := table.New(s, ip)
	if e != api.OK || x == nil {
		t.Fatalf("New(%+v, %d): %v, %d", s, ip, x, e)
	}
	return side{t, x}
}

func (s side) sent(what string, out, want []api.Out) {
	s.t.Helper()
	if !slices.EqualFunc(out, want, same) {
		s.t.Fatalf("%s sends\n%+v, want\n%+v", what, out, want)
	}
}

func (s side) listen(port int, want api.Code) {
	s.t.Helper()
	if e := s.x.Listen(port); e != want {
		s.t.Fatalf("Listen(%d): %d, want %d", port, e, want)
	}
}

func (s side) silence(port int, want api.Code) {
	s.t.Helper()
	if e := s.x.Silence(port); e != want {
		s.t.Fatalf("Silence(%d): %d, want %d", port, e, want)
	}
}

func (s side) connect(ip, port, now, number int, want ...api.Out) {
	s.t.Helper()
	n, out, e := s.x.Connect(ip, port, now)
	if n != number || e != api.OK {
		s.t.Fatalf("Connect(%d, %d, %d): %d, %d, want %d", ip, port, now, n, e, number)
	}
	s.sent("Connect", out, want)
}

func (s side) connectFails(ip, port, now int, want api.Code) {
	s.t.Helper()
	if n, out, e := s.x.Connect(ip, port, now); n != 0 || len(out) != 0 || e != want {
		s.t.Fatalf("Connect(%d, %d, %d): %d, %v, %d, want %d", ip, port, now, n, out, e, want)
	}
}

func (s side) take(from int, x api.Segment, now, number int, want ...api.Out) {
	s.t.Helper()
	n, out := s.x.Take(from, x, now)
	if n != number {
		s.t.Fatalf("Take(%d, %+v, %d): %d, want %d", from, x, now, n, number)
	}
	s.sent("Take", out, want)
}

func (s side) tick(now int, want ...api.Out) {
	s.t.Helper()
	s.sent("Tick", s.x.Tick(now), want)
}

func (s side) accept(port, number int) {
	s.t.Helper()
	if n, ok := s.x.Accept(port); n != number || !ok {
		s.t.Fatalf("Accept(%d): %d, %v, want %d", port, n, ok, number)
	}
}

func (s side) acceptsNone(ports ...int) {
	s.t.Helper()
	for _, port := range ports {
		if n, ok := s.x.Accept(port); n != 0 || ok {
			s.t.Fatalf("Accept(%d): %d, %v, want none", port, n, ok)
		}
	}
}

func (s side) write(number int, data string, now, n int, want ...api.Out) {
	s.t.Helper()
	m, out, e := s.x.Write(number, data, now)
	if m != n || e != api.OK {
		s.t.Fatalf("Write(%d): %d, %d, want %d", number, m, e, n)
	}
	s.sent("Write", out, want)
}

func (s side) writeFails(number int, data string, now int, want api.Code) {
	s.t.Helper()
	if n, out, e := s.x.Write(number, data, now); n != 0 || len(out) != 0 || e != want {
		s.t.Fatalf("Write(%d): %d, %v, %d, want %d", number, n, out, e, want)
	}
}

func (s side) read(number, most, now int, data string, want ...api.Out) {
	s.t.Helper()
	got, out, e := s.x.Read(number, most, now)
	if got != data || e != api.OK {
		s.t.Fatalf("Read(%d): %q, %d, want %q", number, got, e, data)
	}
	s.sent("Read", out, want)
}

func (s side) readFails(number, most, now int, want api.Code) {
	s.t.Helper()
	if data, out, e := s.x.Read(number, most, now); data != "" || len(out) != 0 || e != want {
		s.t.Fatalf("Read(%d): %q, %v, %d, want %d", number, data, out, e, want)
	}
}

func (s side) close(number, now int, want ...api.Out) {
	s.t.Helper()
	out, e := s.x.Close(number, now)
	if e != api.OK {
		s.t.Fatalf("Close(%d): %d", number, e)
	}
	s.sent("Close", out, want)
}

func (s side) closeFails(number, now int, want api.Code) {
	s.t.Helper()
	if out, e := s.x.Close(number, now); len(out) != 0 || e != want {
		s.t.Fatalf("Close(%d): %v, %d, want %d", number, out, e, want)
	}
}

func (s side) abort(number int, want ...api.Out) {
	s.t.Helper()
	out, e := s.x.Abort(number)
	if e != api.OK {
		s.t.Fatalf("Abort(%d): %d", number, e)
	}
	s.sent("Abort", out, want)
}

func (s side) abortFails(number int, want api.Code) {
	s.t.Helper()
	if out, e := s.x.Abort(number); len(out) != 0 || e != want {
		s.t.Fatalf("Abort(%d): %v, %d, want %d", number, out, e, want)
	}
}

func (s side) drop(number int, want api.Code) {
	s.t.Helper()
	if e := s.x.Drop(number); e != want {
		s.t.Fatalf("Drop(%d): %d, want %d", number, e, want)
	}
}

func (s side) is(number, state int, why api.Code) {
	s.t.Helper()
	if x, e, ok := s.x.State(number); x != state || e != why || !ok {
		s.t.Fatalf("State(%d): %d, %d, %v, want %d, %d", number, x, e, ok, state, why)
	}
}

func (s side) ends(number, port, farIP, farPort int) {
	s.t.Helper()
	want := api.Ends{IP: here, Port: port, FarIP: farIP, FarPort: farPort}
	if x, ok := s.x.Ends(number); x != want || !ok {
		s.t.Fatalf("Ends(%d): %+v, %v, want %+v", number, x, ok, want)
	}
}

func (s side) due(at int) {
	s.t.Helper()
	if x, ok := s.x.Due(); x != at || !ok {
		s.t.Fatalf("Due: %d, %v, want %d", x, ok, at)
	}
}

func (s side) numbers(want ...int) {
	s.t.Helper()
	if l := s.x.Numbers(); !slices.Equal(l, want) {
		s.t.Fatalf("Numbers: %v, want %v", l, want)
	}
}

// without looks whether none of these numbers is there, for any call.
func (s side) without(numbers ...int) {
	s.t.Helper()
	for _, n := range numbers {
		if x, e, ok := s.x.State(n); x != 0 || e != api.OK || ok {
			s.t.Fatalf("State(%d): %d, %d, %v, want none", n, x, e, ok)
		}
		if x, ok := s.x.Ends(n); x != (api.Ends{}) || ok {
			s.t.Fatalf("Ends(%d): %+v, %v, want none", n, x, ok)
		}
		s.unheld(n)
	}
}

// unheld looks whether nothing can be asked of these.
func (s side) unheld(numbers ...int) {
	s.t.Helper()
	for _, n := range numbers {
		s.writeFails(n, "x", 0, api.ErrNone)
		s.readFails(n, 9, 0, api.ErrNone)
		s.closeFails(n, 0, api.ErrNone)
		s.abortFails(n, api.ErrNone)
		s.drop(n, api.ErrNone)
	}
}

// empty looks whether there is no connection.
func (s side) empty() {
	s.t.Helper()
	s.numbers()
	s.without(1, 2)
	if at, ok := s.x.Due(); at != 0 || ok {
		s.t.Fatalf("Due: %d, %v, want none", at, ok)
	}
	s.tick(1000)
}

// comes lets a connection come in from the address there, at the tick 0, and tells its first number.
func (s side) comes(port, farPort, number int) (iss int) {
	s.t.Helper()
	iss = first(set.Key, api.Ends{IP: here, Port: port, FarIP: there, FarPort: farPort}, 0)
	s.take(there, syn(farPort, port), 0, number, to(there, answer(port, farPort, iss))...)
	return iss
}

// stands lets one come in, and stand.
func (s side) stands(port, farPort, number int) (iss int) {
	s.t.Helper()
	iss = s.comes(port, farPort, number)
	s.take(there, far(0, farPort, port, 501, iss+1, ""), 0, number)
	s.is(number, api.Estab, api.OK)
	return iss
}

// opened is a connection that it opened, and its first number.
func (s side) opened(farPort, number int) (iss int) {
	s.t.Helper()
	n, out, e := s.x.Connect(there, farPort, 0)
	if n != number || e != api.OK || len(out) != 1 {
		s.t.Fatalf("Connect: %d, %v, %d, want %d", n, out, e, number)
	}
	return out[0].S.Seq
}
