package sock_test

import (
	"math"
	"slices"
	"testing"

	"sternpost/api"
	"sternpost/conn"
	"sternpost/seg"
	"sternpost/sock"
	"sternpost/table"
)

const (
	word     = 1<<32 - 1 // the greatest address
	mostPort = 1<<16 - 1
	firstOwn = 49152 // the first port from which one opens
	most     = 64    // sockets, and requests that wait
)

// The box's own address, and another one.
const (
	here  = 11
	there = 10
)

var set = table.Setup{
	Conn: conn.Setup{MSS: 20, Room: 60, Delay: 1, First: 8, Least: 4, Most: 40, Tries: 2, Linger: 10},
	Key:  7, Backlog: 3, Room: 6,
}

// noFDs are numbers that no socket can have.
var noFDs = []int{-1, -2, most, most + 1, 1 << 32, 1<<32 + 1, math.MinInt, math.MinInt + 1, math.MaxInt}

// noPorts are numbers that are no ports.
var noPorts = []int{0, -1, -80, mostPort + 1, mostPort + 1 + 80, 1<<32 + 80, math.MinInt, math.MaxInt}

// noWords are numbers that are no addresses.
var noWords = []int{-1, -there, word + 1, word + 1 + there, math.MinInt, math.MaxInt}

// noTicks are numbers that are no ticks.
var noTicks = []int{-1, -2, api.MaxTick + 1, api.MaxTick + 2, math.MinInt, math.MaxInt}

// noKinds are numbers that are no kinds of requests.
var noKinds = []int{0, -1, 10, 11, 1 << 32, 1<<32 + 1, math.MinInt, math.MaxInt}

// first is the first number of a connection of the box, at the tick 0, as chapter 19 has it.
func first(port, farPort int) int {
	x := uint32(set.Key)
	for _, n := range []int{here, port, there, farPort} {
		x ^= uint32(n)
		x *= 16777619
	}
	return int(x)
}

// syn is a segment that opens a connection.
func syn(from, to int) api.Segment {
	return api.Segment{From: from, To: to, Seq: 500, Flags: api.SYN, Window: 100}
}

// far is a segment with ACK that comes.
func far(flags, from, to, at, ack int, data string) api.Segment {
	return api.Segment{From: from, To: to, Seq: at, Ack: ack, Flags: flags | api.ACK, Window: 100, Data: data}
}

// own is a segment with ACK that goes out, of a connection where nothing is to be read.
func own(flags, from, to, at, ack int, data string) api.Segment {
	return api.Segment{From: from, To: to, Seq: at, Ack: ack, Flags: flags | api.ACK, Window: 60, Data: data}
}

// reset is what goes out of a connection that is aborted.
func reset(from, to, at int) api.Segment {
	return api.Segment{From: from, To: to, Seq: at, Flags: api.RST, Window: 60}
}

// question is the SYN by which a connection is opened from here.
func question(port, farPort int) api.Segment {
	return api.Segment{From: port, To: farPort, Seq: first(port, farPort), Flags: api.SYN, Window: 60, Opts: api.Opts{MSS: 20, SackOK: true}}
}

// out is what goes to the address there.
func out(l ...api.Segment) (o []api.Out) {
	for _, s := range l {
		o = append(o, api.Out{To: there, S: s})
	}
	return o
}

// did is what requests came to.
func did(l ...api.Done) []api.Done { return l }

func same(a, b api.Out) bool { return a.To == b.To && seg.Same(a.S, b.S) }

// side is a box under test.
type side struct {
	t *testing.T
	x *sock.Box
}

// made is a box of the address here that may not be refused.
func made(t *testing.T, s table.Setup) side {
	t.Helper()
	return madeAt(t, s, here)
}

func madeAt(t *testing.T, s table.Setup, ip int) side {
	t.Helper()
	x, e := sock.New(s, ip)
	if e != api.OK || x == nil {
		t.Fatalf("New(%+v, %d): %v, %d", s, ip, x, e)
	}
	return side{t, x}
}

func (s side) is(what string, done []api.Done, sent []api.Out, want []api.Done, wantSent []api.Out) {
	s.t.Helper()
	if !slices.Equal(done, want) {
		s.t.Fatalf("%s: %+v, want %+v", what, done, want)
	}
	if !slices.EqualFunc(sent, wantSent, same) {
		s.t.Fatalf("%s sends\n%+v, want\n%+v", what, sent, wantSent)
	}
}

// ask asks at the tick 0.
func (s side) ask(r api.Request, want []api.Done, sent ...api.Out) {
	s.t.Helper()
	s.askAt(0, r, want, sent...)
}

func (s side) askAt(now int, r api.Request, want []api.Done, sent ...api.Out) {
	s.t.Helper()
	done, o := s.x.Ask(r, now)
	s.is("Ask", done, o, want, sent)
}

// take takes a segment that came from the address there at the tick 0.
func (s side) take(x api.Segment, want []api.Done, sent ...api.Out) {
	s.t.Helper()
	done, o := s.x.Take(there, x, 0)
	s.is("Take", done, o, want, sent)
}

func (s side) tick(now int, want []api.Done, sent ...api.Out) {
	s.t.Helper()
	done, o := s.x.Tick(now)
	s.is("Tick", done, o, want, sent)
}

func (s side) fds(want ...int) {
	s.t.Helper()
	if l := s.x.FDs(); !slices.Equal(l, want) {
		s.t.Fatalf("FDs: %v, want %v", l, want)
	}
}

func (s side) waiting(want ...int) {
	s.t.Helper()
	if l := s.x.Waiting(); !slices.Equal(l, want) {
		s.t.Fatalf("Waiting: %v, want %v", l, want)
	}
}

func (s side) due(want int) {
	s.t.Helper()
	if at, ok := s.x.Due(); at != want || !ok {
		s.t.Fatalf("Due: %d, %v, want %d", at, ok, want)
	}
}

func (s side) neverDue() {
	s.t.Helper()
	if at, ok := s.x.Due(); at != 0 || ok {
		s.t.Fatalf("Due: %d, %v, want none", at, ok)
	}
}

// state looks at the state of sockets.
func (s side) state(want int, fds ...int) {
	s.t.Helper()
	for _, fd := range fds {
		s.ask(api.Request{Tag: 99, Kind: api.SStat, FD: fd}, did(api.Done{Tag: 99, N: want}))
	}
}

// listens opens a socket that listens.
func (s side) listens(port, fd int) {
	s.t.Helper()
	s.ask(api.Request{Tag: 90, Kind: api.SListen, Port: port}, did(api.Done{Tag: 90, FD: fd}))
}

// comes lets a connection come in that stands, and is not accepted so far, if that is what the Dones say.
func (s side) comes(port, farPort int, want ...api.Done) (iss int) {
	s.t.Helper()
	iss = first(port, farPort)
	answer := own(api.SYN, port, farPort, iss, 501, "")
	answer.Opts = api.Opts{MSS: 20, SackOK: true}
	s.take(syn(farPort, port), nil, out(answer)...)
	s.take(far(0, farPort, port, 501, iss+1, ""), want)
	return iss
}

// accepts lets one come in, and accepts it.
func (s side) accepts(listener, port, farPort, fd int) (iss int) {
	s.t.Helper()
	iss = s.comes(port, farPort)
	s.ask(api.Request{Tag: 91, Kind: api.SAccept, FD: listener}, did(api.Done{Tag: 91, FD: fd}))
	return iss
}

// server is a box with a socket 0 that listens at port 80, and a socket 1 that came in there from port 5; its first number.
func server(t *testing.T) (s side, iss int) {
	t.Helper()
	s = made(t, set)
	s.listens(80, 0)
	return s, s.accepts(0, 80, 5, 1)
}

// opens asks for a connection to port 80, which waits.
func (s side) opens(tag, port int) {
	s.t.Helper()
	s.ask(api.Request{Tag: tag, Kind: api.SConnect, IP: there, Port: 80}, nil, out(question(port, 80))...)
}

func read(tag, fd, n int) api.Request {
	return api.Request{Tag: tag, Kind: api.SRead, FD: fd, N: n}
}

func write(tag, fd int, data string) api.Request {
	return api.Request{Tag: tag, Kind: api.SWrite, FD: fd, Data: data}
}

// of is a request that has a kind and a socket.
func of(tag, kind, fd int) api.Request {
	return api.Request{Tag: tag, Kind: kind, FD: fd}
}

func failed(tag int, e api.Code) api.Done { return api.Done{Tag: tag, Code: e} }
