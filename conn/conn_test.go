package conn_test

import (
	"math"
	"slices"
	"strings"
	"testing"

	"sternpost/api"
	"sternpost/conn"
	"sternpost/seg"
)

const (
	top  = api.MaxSeq
	half = 1 << 31
	tick = api.MaxTick
)

var set = conn.Setup{MSS: 10, Room: 40, Delay: 3, First: 8, Least: 4, Most: 60, Tries: 2, Linger: 20}

var ends = api.Ends{IP: 10, Port: 5, FarIP: 11, FarPort: 80}

// far is a segment of the other side.
func far(flags, at, ack, window int, data string) api.Segment {
	return api.Segment{From: 80, To: 5, Seq: at, Ack: ack, Flags: flags, Window: window, Data: data}
}

// own is a segment of a connection that has room for 40 bytes.
func own(flags, at, ack int, data string) api.Segment {
	return api.Segment{From: 5, To: 80, Seq: at, Ack: ack, Flags: flags, Window: 40, Data: data}
}

// room is the segment with another window.
func room(n int, s api.Segment) api.Segment {
	s.Window = n
	return s
}

// with is the segment with options.
func with(s api.Segment, o api.Opts) api.Segment {
	s.Opts = o
	return s
}

// sacks is the segment with what was received apart: each two numbers are from where, and to where.
func sacks(s api.Segment, l ...int) api.Segment {
	for i := 0; i < len(l); i += 2 {
		s.Opts.Sacks = append(s.Opts.Sacks, api.Range{From: l[i], To: l[i+1]})
	}
	return s
}

var ours = api.Opts{MSS: 10, SackOK: true}

// side is a connection under test.
type side struct {
	t *testing.T
	c *conn.Conn
}

func (s side) sent(what string, l []api.Segment, want []api.Segment) {
	s.t.Helper()
	if !slices.EqualFunc(l, want, seg.Same) {
		s.t.Fatalf("%s sends\n%+v, want\n%+v", what, l, want)
	}
	for _, x := range l {
		if seg.Check(x) != api.OK {
			s.t.Fatalf("%s sends %+v, which may not be", what, x)
		}
	}
}

func (s side) take(x api.Segment, now int, want ...api.Segment) {
	s.t.Helper()
	s.sent("Take", s.c.Take(x, now), want)
}

func (s side) tick(now int, want ...api.Segment) {
	s.t.Helper()
	s.sent("Tick", s.c.Tick(now), want)
}

func (s side) write(data string, now, n int, want ...api.Segment) {
	s.t.Helper()
	m, l, e := s.c.Write(data, now)
	if m != n || e != api.OK {
		s.t.Fatalf("Write: %d, %d, want %d", m, e, n)
	}
	s.sent("Write", l, want)
}

func (s side) writeFails(data string, now int, want api.Code) {
	s.t.Helper()
	if n, l, e := s.c.Write(data, now); n != 0 || len(l) != 0 || e != want {
		s.t.Fatalf("Write: %d, %v, %d, want %d", n, l, e, want)
	}
}

func (s side) read(most, now int, data string, want ...api.Segment) {
	s.t.Helper()
	got, l, e := s.c.Read(most, now)
	if got != data || e != api.OK {
		s.t.Fatalf("Read: %q, %d, want %q", got, e, data)
	}
	s.sent("Read", l, want)
}

func (s side) readFails(most, now int, want api.Code) {
	s.t.Helper()
	if data, l, e := s.c.Read(most, now); data != "" || len(l) != 0 || e != want {
		s.t.Fatalf("Read: %q, %v, %d, want %d", data, l, e, want)
	}
}

func (s side) close(now int, want ...api.Segment) {
	s.t.Helper()
	l, e := s.c.Close(now)
	if e != api.OK {
		s.t.Fatalf("Close: %d", e)
	}
	s.sent("Close", l, want)
}

func (s side) closeFails(now int, want api.Code) {
	s.t.Helper()
	if l, e := s.c.Close(now); len(l) != 0 || e != want {
		s.t.Fatalf("Close: %v, %d, want %d", l, e, want)
	}
}

func (s side) abort(want ...api.Segment) {
	s.t.Helper()
	s.sent("Abort", s.c.Abort(), want)
}

func (s side) is(state int, why api.Code) {
	s.t.Helper()
	if x, e := s.c.State(); x != state || e != why {
		s.t.Fatalf("State: %d, %d, want %d, %d", x, e, state, why)
	}
}

// due looks at the first clock; 0 is none.
func (s side) due(want int) {
	s.t.Helper()
	if at, ok := s.c.Due(); at != want || ok != (want != 0) {
		s.t.Fatalf("Due: %d, %v, want %d", at, ok, want)
	}
}

func (s side) numbers(acked, sent, expected, window int) {
	s.t.Helper()
	a, n, e, w := s.c.Numbers()
	if a != acked || n != sent || e != expected || w != window {
		s.t.Fatalf("Numbers: %d, %d, %d, %d, want %d, %d, %d, %d", a, n, e, w, acked, sent, expected, window)
	}
}

func (s side) fork() side { return side{s.t, s.c.Fork()} }

// opened is a connection from 100 on that has sent its SYN at 0.
func opened(t *testing.T, x conn.Setup) side {
	t.Helper()
	c, l, e := conn.Open(x, ends, 100, 0)
	if e != api.OK {
		t.Fatalf("Open: %d", e)
	}
	s := side{t, c}
	s.sent("Open", l, []api.Segment{with(room(x.Room, own(api.SYN, 100, 0, "")), api.Opts{MSS: x.MSS, SackOK: true})})
	return s
}

// accepted is a connection from 100 on that has taken a SYN from 300 on at 0, with those options and that window.
func accepted(t *testing.T, x conn.Setup, o api.Opts, window int) side {
	t.Helper()
	c, l, e := conn.Accept(x, ends, 100, with(far(api.SYN, 300, 0, window, ""), o), 0)
	if e != api.OK {
		t.Fatalf("Accept: %d", e)
	}
	s := side{t, c}
	s.sent("Accept", l, []api.Segment{with(room(x.Room, own(api.SYN|api.ACK, 100, 301, "")), api.Opts{MSS: x.MSS, SackOK: true})})
	return s
}

// stands is a connection from 101 on to 301, which stands at 2: its wait is 6.
func stands(t *testing.T, x conn.Setup, window int) side {
	t.Helper()
	s := opened(t, x)
	s.take(with(far(api.SYN|api.ACK, 300, 101, window, ""), ours), 2, room(x.Room, own(api.ACK, 101, 301, "")))
	s.is(api.Estab, api.OK)
	s.numbers(101, 101, 301, window)
	s.due(0)
	return s
}

// letters are n bytes, each unlike the next.
func letters(n int) string {
	return strings.Repeat("abcdefghijklmnopqrstuvwxyz", n/26+1)[:n]
}

// begun are connections in each state, by state; all of them are reached at 20 at most. From Estab on what was read and written is abc.
func begun(t *testing.T) map[int]side {
	t.Helper()
	m := map[int]side{api.SynSent: opened(t, set), api.SynRcvd: accepted(t, set, ours, 25)}
	s := stands(t, set, 25)
	s.write("abc", 3, 3, own(api.ACK|api.PSH, 101, 301, "abc"))
	s.take(far(api.ACK, 301, 104, 25, "abc"), 4)
	s.read(9, 5, "abc")
	s.tick(7, own(api.ACK, 104, 304, ""))
	m[api.Estab] = s
	s = s.fork()
	s.take(far(api.ACK|api.FIN, 304, 104, 25, ""), 8, own(api.ACK, 104, 305, ""))
	m[api.CloseWait] = s
	s = s.fork()
	s.close(9, own(api.ACK|api.FIN, 104, 305, ""))
	m[api.LastAck] = s
	s = s.fork()
	s.take(far(api.ACK, 305, 105, 25, ""), 10)
	m[api.Closed] = s
	s = m[api.Estab].fork()
	s.close(8, own(api.ACK|api.FIN, 104, 304, ""))
	m[api.FinWait1] = s
	s = s.fork()
	s.take(far(api.ACK, 304, 105, 25, ""), 9)
	m[api.FinWait2] = s
	s = s.fork()
	s.take(far(api.ACK|api.FIN, 304, 105, 25, ""), 10, own(api.ACK, 105, 305, ""))
	m[api.TimeWait] = s
	s = m[api.FinWait1].fork()
	s.take(far(api.ACK|api.FIN, 304, 104, 25, ""), 9, own(api.ACK, 105, 305, ""))
	m[api.Closing] = s
	for state, x := range m {
		x.is(state, api.OK)
	}
	return m
}

// 18.1
func TestCheck(t *testing.T) {
	for _, x := range []struct {
		field       func(*conn.Setup) *int
		least, most int
	}{
		{func(s *conn.Setup) *int { return &s.MSS }, 1, 1460},
		{func(s *conn.Setup) *int { return &s.Room }, 1, 65535},
		{func(s *conn.Setup) *int { return &s.Delay }, 0, 1 << 20},
		{func(s *conn.Setup) *int { return &s.First }, 4, 60},
		{func(s *conn.Setup) *int { return &s.Least }, 1, 8},
		{func(s *conn.Setup) *int { return &s.Most }, 8, 1 << 20},
		{func(s *conn.Setup) *int { return &s.Tries }, 0, 32},
		{func(s *conn.Setup) *int { return &s.Linger }, 1, 1 << 20},
	} {
		for _, n := range []int{x.least, x.most, x.least + 1, x.most - 1} {
			s := set
			*x.field(&s) = n
			if e := conn.Check(s); e != api.OK {
				t.Errorf("Check(%+v): %d", s, e)
			}
			if c, l, e := conn.Open(s, ends, 100, 0); c == nil || len(l) != 1 || e != api.OK {
				t.Errorf("Open(%+v): %v, %d", s, l, e)
			}
		}
		for _, n := range []int{x.least - 1, x.most + 1, -1, -x.most, 1<<32 + x.least, math.MinInt, math.MaxInt} {
			s := set
			*x.field(&s) = n
			if e := conn.Check(s); e != api.ErrRange {
				t.Errorf("Check(%+v): %d", s, e)
			}
			refused(t, s, ends, 100, far(api.SYN, 300, 0, 9, ""), 0, api.ErrRange, api.ErrRange)
		}
	}
	if e := conn.Check(conn.Setup{}); e != api.ErrRange {
		t.Errorf("Check of zeros: %d", e)
	}
}

// refused looks whether Open and Accept answer these errors, and nothing else.
func refused(t *testing.T, s conn.Setup, ends api.Ends, iss int, syn api.Segment, now int, open, accept api.Code) {
	t.Helper()
	if open != api.OK {
		if c, l, e := conn.Open(s, ends, iss, now); c != nil || len(l) != 0 || e != open {
			t.Errorf("Open(%+v, %+v, %d, %d): %v, %v, %d", s, ends, iss, now, c, l, e)
		}
	}
	if c, l, e := conn.Accept(s, ends, iss, syn, now); c != nil || len(l) != 0 || e != accept {
		t.Errorf("Accept(%+v, %+v, %d, %+v, %d): %v, %v, %d", s, ends, iss, syn, now, c, l, e)
	}
}

// 18.1: ends, first numbers and ticks that are none.
func TestRefused(t *testing.T) {
	syn := far(api.SYN, 300, 0, 9, "")
	for _, n := range []int{-1, 1 << 32, math.MinInt, math.MaxInt} {
		refused(t, set, api.Ends{IP: n, Port: 5, FarIP: 11, FarPort: 80}, 100, syn, 0, api.ErrRange, api.ErrRange)
		refused(t, set, api.Ends{IP: 10, Port: 5, FarIP: n, FarPort: 80}, 100, syn, 0, api.ErrRange, api.ErrRange)
		refused(t, set, ends, n, syn, 0, api.ErrRange, api.ErrRange)
	}
	for _, n := range []int{0, -1, 65536, 1<<16 + 5, math.MinInt, math.MaxInt} {
		refused(t, set, api.Ends{IP: 10, Port: n, FarIP: 11, FarPort: 80}, 100, syn, 0, api.ErrRange, api.ErrRange)
		refused(t, set, api.Ends{IP: 10, Port: 5, FarIP: 11, FarPort: n}, 100, syn, 0, api.ErrRange, api.ErrRange)
	}
	for _, n := range []int{-1, tick + 1, math.MinInt, math.MaxInt} {
		refused(t, set, ends, 100, syn, n, api.ErrRange, api.ErrRange)
	}
}

// 18.1: the edges of what is not refused.
func TestNotRefused(t *testing.T) {
	for _, e := range []api.Ends{{Port: 1, FarPort: 1}, {IP: 1<<32 - 1, Port: 65535, FarIP: 1<<32 - 1, FarPort: 65535}} {
		for _, iss := range []int{0, top} {
			for _, now := range []int{0, tick} {
				c, l, code := conn.Open(set, e, iss, now)
				if code != api.OK || len(l) != 1 || l[0].Seq != iss || l[0].From != e.Port || l[0].To != e.FarPort {
					t.Fatalf("Open(%+v, %d, %d): %v, %d", e, iss, now, l, code)
				}
				side{t, c}.numbers(iss, (iss+1)&top, 0, 0)
				c, l, code = conn.Accept(set, e, iss, far(api.SYN, top, 0, 65535, ""), now)
				if code != api.OK || len(l) != 1 || l[0].Seq != iss || l[0].From != e.Port || l[0].To != e.FarPort {
					t.Fatalf("Accept(%+v, %d, %d): %v, %d", e, iss, now, l, code)
				}
				side{t, c}.numbers(iss, (iss+1)&top, 0, 65535)
			}
		}
	}
}

// 18.1: a SYN that is none; what Open refuses comes ahead of that.
func TestAcceptRefused(t *testing.T) {
	for _, syn := range []api.Segment{
		{}, far(0, 300, 0, 9, ""), far(api.ACK, 300, 1, 9, ""), far(api.PSH|api.URG, 300, 0, 9, ""),
		far(api.SYN|api.ACK, 300, 1, 9, ""), far(api.SYN|api.RST, 300, 0, 9, ""), far(api.SYN|api.FIN, 300, 0, 9, ""),
		far(63, 300, 0, 9, ""), far(api.SYN, -1, 0, 9, ""), far(api.SYN, 300, 7, 9, ""), far(api.SYN|64, 300, 0, 9, ""),
		far(api.SYN, 300, 0, 65536, ""), far(api.SYN, 300, 0, 9, letters(api.MaxData+1)),
		with(far(api.SYN, 300, 0, 9, ""), api.Opts{MSS: 65536}), with(far(api.SYN, 300, 0, 9, ""), api.Opts{Scale: 1}),
	} {
		refused(t, set, ends, 100, syn, 0, api.OK, api.ErrSeg)
		refused(t, conn.Setup{}, ends, 100, syn, 0, api.OK, api.ErrRange)
		refused(t, set, api.Ends{}, 100, syn, 0, api.OK, api.ErrRange)
		refused(t, set, ends, -1, syn, 0, api.OK, api.ErrRange)
		refused(t, set, ends, 100, syn, -1, api.OK, api.ErrRange)
	}
}

// 18.1: what else a SYN has is not refused, and its data are not taken.
func TestAcceptTakes(t *testing.T) {
	syn := far(api.SYN|api.PSH|api.URG, top, 0, 77, letters(30))
	syn.Urgent = 3
	c, l, e := conn.Accept(set, ends, top, syn, 5)
	s := side{t, c}
	s.sent("Accept", l, []api.Segment{with(own(api.SYN|api.ACK, top, 0, ""), ours)})
	if e != api.OK {
		t.Fatal(e)
	}
	s.is(api.SynRcvd, api.OK)
	s.numbers(top, 0, 0, 77)
	s.due(13)
	s.read(99, 6, "")
	s.take(far(api.ACK, 0, 0, 78, "xy"), 6)
	s.is(api.Estab, api.OK)
	s.numbers(0, 0, 2, 78)
	s.read(99, 6, "xy")
}

// 18.1: Open.
func TestOpen(t *testing.T) {
	s := opened(t, set)
	s.is(api.SynSent, api.OK)
	s.numbers(100, 101, 0, 0)
	s.due(8)
	s.tick(7)
	s.tick(8, with(own(api.SYN, 100, 0, ""), ours))
	s.due(24)
}

// The chapter's example: both stand, and each one's bytes begin where the other one expects them.
func TestExample(t *testing.T) {
	there := api.Ends{IP: 11, Port: 80, FarIP: 10, FarPort: 5}
	a, l, _ := conn.Open(set, ends, 100, 0)
	b, m, e := conn.Accept(set, there, 300, l[0], 1)
	if e != api.OK || len(m) != 1 {
		t.Fatal(m, e)
	}
	x, y := side{t, a}, side{t, b}
	l = a.Take(m[0], 2)
	x.is(api.Estab, api.OK)
	y.is(api.SynRcvd, api.OK)
	if len(l) != 1 {
		t.Fatal(l)
	}
	y.take(l[0], 3)
	y.is(api.Estab, api.OK)
	x.numbers(101, 101, 301, 40)
	y.numbers(301, 301, 101, 40)
	x.due(0)
	y.due(0)
}

// 18.1: what the other side's SYN tells: an MSS of its own, or 536; windows; whether it knows of what was received apart.
func TestMssOfBoth(t *testing.T) {
	big := conn.Setup{MSS: 1460, Room: 8000, First: 8, Least: 4, Most: 60, Linger: 1}
	for _, x := range []struct{ mine, told, want int }{
		{1460, 0, 536}, {1460, 536, 536}, {1460, 900, 900}, {1460, 1460, 1460}, {1460, 65535, 1460}, {1460, 1, 1},
		{535, 0, 535}, {10, 0, 10}, {10, 9, 9}, {10, 11, 10}, {1, 1460, 1},
	} {
		y := big
		y.MSS = x.mine
		s := accepted(t, y, api.Opts{MSS: x.told}, 8000)
		s.take(far(api.ACK, 301, 101, 8000, ""), 1)
		data := letters(x.want)
		s.write(data, 2, x.want, room(8000, own(api.ACK|api.PSH, 101, 301, data)))
		s.take(far(api.ACK, 301, 101+x.want, 8000, ""), 3)

		o := opened(t, y)
		o.take(with(far(api.SYN|api.ACK, 300, 101, 8000, ""), api.Opts{MSS: x.told}), 1, room(8000, own(api.ACK, 101, 301, "")))
		if x.want == 1 {
			o.write("ab", 2, 2, room(8000, own(api.ACK, 101, 301, "a")), room(8000, own(api.ACK|api.PSH, 102, 301, "b")))
			continue
		}
		// One more is the first of a second segment, that waits for an acknowledgement.
		s.write(data+"z", 4, x.want+1, room(8000, own(api.ACK, 101+x.want, 301, data)))
		o.write(data+"z", 2, x.want+1, room(8000, own(api.ACK, 101, 301, data)))
	}
}

// 18.1: a valve is by the MSS of both sides: at first four segments are on their way.
func TestFirstWindow(t *testing.T) {
	x := set
	x.Room = 1000
	for _, told := range []int{0, 10, 9, 3} {
		least := 10
		if told != 0 {
			least = told
		}
		s := accepted(t, x, api.Opts{MSS: told}, 1000)
		s.take(far(api.ACK, 301, 101, 1000, ""), 1)
		n, l, e := s.c.Write(letters(900), 2)
		if n != 900 || e != api.OK || len(l) != 4 || len(l[3].Data) != least {
			t.Errorf("MSS %d: %d, %d, %v", told, n, e, l)
		}
	}
}

// 18.1: a now below one ahead counts as that, one above the last tick as that; a call that is refused is none ahead.
func TestNows(t *testing.T) {
	for _, touch := range []func(s side){
		func(s side) { s.take(far(api.ACK, 301, 101, 25, ""), 50) },
		func(s side) { s.take(api.Segment{}, 50) },
		func(s side) { s.take(far(0, 301, 0, 0, "x"), 50) },
		func(s side) { s.tick(50) },
		func(s side) { s.write("", 50, 0) },
		func(s side) { s.read(9, 50, "") },
	} {
		s := stands(t, set, 25)
		touch(s)
		s.write("a", 10, 1, own(api.ACK|api.PSH, 101, 301, "a"))
		s.due(56)
		s.take(far(api.ACK, 301, 101, 25, "xy"), 20)
		s.due(53)
		s.tick(-7)
		s.tick(52)
		s.tick(53, room(38, own(api.ACK, 102, 303, "")))
		s.tick(math.MinInt)
		s.close(54, room(38, own(api.ACK|api.FIN, 102, 303, "")))
		// The wait is over for both, which go together.
		s.tick(56, room(38, own(api.ACK|api.PSH|api.FIN, 101, 303, "a")))
	}
	s := stands(t, set, 25)
	for _, n := range []int{tick, tick + 1, math.MaxInt} {
		x := s.fork()
		x.tick(n)
		x.write("a", 3, 1, own(api.ACK|api.PSH, 101, 301, "a"))
		x.due(tick + 6)
		x.tick(math.MaxInt)
	}
	x := begun(t)[api.FinWait1]
	x.writeFails("a", 9999, api.ErrState)
	x.closeFails(9999, api.ErrState)
	x.take(far(api.ACK|api.FIN, 304, 104, 25, ""), 9, own(api.ACK, 105, 305, ""))
	x.readFails(9, 9999, api.ErrEnd)
	x.take(far(api.ACK, 305, 105, 25, ""), 10)
	x.is(api.TimeWait, api.OK)
	x.due(30)
	f := stands(t, set, 0)
	f.write(letters(40), 3, 40)
	f.writeFails("a", 9999, api.ErrFull)
	f.take(far(api.ACK, 301, 101, 0, "xy"), 4)
	f.due(7)
}

// 18.1: Close counts as a call ahead, too.
func TestNowOfClose(t *testing.T) {
	s := stands(t, set, 25)
	s.close(50, own(api.ACK|api.FIN, 101, 301, ""))
	s.due(56)
	s.take(far(api.ACK, 301, 101, 25, "x"), 10)
	s.due(53)
}
