package conn_test

import (
	"math"
	"testing"

	"sternpost/api"
	"sternpost/conn"
)

// 18.7: Write, by states; closed: its error, if it has one.
func TestWriteByState(t *testing.T) {
	for state, s := range begun(t) {
		switch state {
		case api.SynSent, api.SynRcvd:
			s.write("ab", 20, 2)
			s.write("", 20, 0)
			s.write(letters(39), 20, 38)
			s.writeFails("c", 20, api.ErrFull)
			s.write("", 20, 0)
		case api.Estab, api.CloseWait:
			_, sent, expected, _ := s.c.Numbers()
			s.write("ab", 20, 2, own(api.ACK|api.PSH, sent, expected, "ab"))
		default:
			s.writeFails("ab", 20, api.ErrState)
			s.writeFails("", 20, api.ErrState)
		}
	}
	s := begun(t)[api.SynRcvd]
	s.close(2)
	s.writeFails("ab", 3, api.ErrState)
	for _, why := range []api.Code{api.ErrReset, api.ErrTime} {
		s := ended(t, why)
		s.writeFails("ab", 9999, why)
		s.closeFails(9999, why)
		s.readFails(9, 9999, why)
		s.abort()
		s.is(api.Closed, why)
	}
}

// ended is a connection that was closed with an error.
func ended(t *testing.T, why api.Code) side {
	t.Helper()
	s := begun(t)[api.Estab]
	switch why {
	case api.ErrReset:
		s.take(far(api.RST, 304, 0, 0, ""), 20)
	case api.ErrTime:
		s.close(20, own(api.ACK|api.FIN, 104, 304, ""))
		for at, ok := s.c.Due(); ok; at, ok = s.c.Due() {
			s.c.Tick(at)
		}
	}
	s.is(api.Closed, why)
	return s
}

// 18.7: Write takes what there is room for; what is acknowledged makes room.
func TestWriteRoom(t *testing.T) {
	s := stands(t, set, 10)
	d := letters(60)
	s.write(d, 3, 40, own(api.ACK, 101, 301, d[:10]))
	s.writeFails("x", 4, api.ErrFull)
	s.take(far(api.ACK, 301, 111, 0, ""), 5)
	s.write(d[40:], 6, 10)
	s.writeFails(d, 7, api.ErrFull)
}

// 18.7: Read, by states, with nothing there.
func TestReadByState(t *testing.T) {
	for state, s := range begun(t) {
		for _, most := range []int{9, 1, 0, -1, math.MinInt, math.MaxInt} {
			switch state {
			case api.SynSent, api.SynRcvd, api.Estab, api.FinWait1, api.FinWait2:
				s.read(most, 20, "")
			default:
				s.readFails(most, 20, api.ErrEnd)
			}
		}
	}
	s := opened(t, set)
	s.close(1)
	s.is(api.Closed, api.OK)
	s.readFails(9, 2, api.ErrState)
}

// 18.7: Read takes at most so many bytes, what is there also of one that is closed; the end is told behind them.
func TestRead(t *testing.T) {
	s := stands(t, set, 25)
	s.take(far(api.ACK, 301, 101, 25, "abcdef"), 3)
	for _, most := range []int{0, -1, math.MinInt} {
		s.read(most, 4, "")
	}
	s.read(1, 4, "a")
	s.read(2, 4, "bc")
	f := s.fork()
	f.take(far(api.RST, 307, 0, 0, ""), 5)
	f.read(0, 6, "")
	f.read(1, 6, "d")
	f.read(9, 6, "ef")
	f.readFails(9, 6, api.ErrReset)
	s.take(far(api.ACK|api.FIN, 307, 101, 25, "g"), 5, room(36, own(api.ACK, 101, 309, "")))
	s.read(0, 6, "")
	s.read(math.MaxInt, 6, "defg")
	s.readFails(9, 6, api.ErrEnd)
	s.abort(own(api.RST, 101, 0, ""))
	s.readFails(9, 6, api.ErrEnd)
	// Behind a FIN that is not taken nothing ends.
	s = stands(t, set, 25)
	s.take(far(api.ACK|api.FIN, 302, 101, 25, ""), 3, own(api.ACK, 101, 301, ""))
	s.read(9, 4, "")
	s.abort(own(api.RST, 101, 0, ""))
	s.readFails(9, 6, api.ErrReset)
}

// 18.7: a window that was small and is so no more is told; small is below the least of the MSS and half of the room.
func TestReadTells(t *testing.T) {
	for _, x := range []struct{ mss, room, least int }{{10, 40, 10}, {10, 20, 10}, {10, 19, 9}, {10, 2, 1}, {10, 1, 1}, {1, 40, 1}, {30, 40, 20}} {
		y := set
		y.MSS, y.Room = x.mss, x.room
		s := stands(t, y, 25)
		s.take(far(api.ACK, 301, 101, 25, letters(x.room)), 3)
		if x.least > 1 {
			f := s.fork()
			f.read(x.least-1, 4, letters(x.room)[:x.least-1])
			f.tick(6, room(x.least-1, own(api.ACK, 101, 301+x.room, "")))
			f.read(1, 7, letters(x.room)[x.least-1:x.least], room(x.least, own(api.ACK, 101, 301+x.room, "")))
			f.read(1, 7, letters(x.room)[x.least:x.least+1])
		}
		s.read(99, 4, letters(x.room), room(x.room, own(api.ACK, 101, 301+x.room, "")))
		s.due(0)
	}
	// The MSS is its own, whatever the other side's.
	s := accepted(t, set, api.Opts{MSS: 3, SackOK: true}, 25)
	s.take(far(api.ACK, 301, 101, 25, letters(40)), 3)
	s.read(9, 4, letters(9))
	s.read(1, 4, "j", room(10, own(api.ACK, 101, 341, "")))
	// What lies apart is told with it.
	s = stands(t, set, 25)
	s.take(far(api.ACK, 301, 101, 25, letters(31)), 3)
	s.take(far(api.ACK, 333, 101, 25, "x"), 4, sacks(room(9, own(api.ACK, 101, 332, "")), 333, 334))
	s.read(1, 5, "a", sacks(room(10, own(api.ACK, 101, 332, "")), 333, 334))
}

// 18.7: it is not told once the other side has sent all, or it is closed.
func TestReadTellsNothing(t *testing.T) {
	s := stands(t, set, 25)
	s.take(far(api.ACK, 301, 101, 25, letters(39)), 3)
	f := s.fork()
	f.take(far(api.RST, 340, 0, 0, ""), 4)
	f.read(99, 5, letters(39))
	f = s.fork()
	f.take(far(api.ACK|api.FIN, 340, 101, 25, ""), 4, room(1, own(api.ACK, 101, 341, "")))
	f.read(99, 5, letters(39))
	f = s.fork()
	f.close(4, room(1, own(api.ACK|api.FIN, 101, 340, "")))
	f.read(99, 5, letters(39), own(api.ACK, 102, 340, ""))
	// Enough room there was, and more is.
	s = stands(t, set, 25)
	s.take(far(api.ACK, 301, 101, 25, letters(30)), 3)
	s.read(99, 5, letters(30))
}

// 18.7: Close, by states.
func TestClose(t *testing.T) {
	for state, s := range begun(t) {
		_, sent, expected, _ := s.c.Numbers()
		switch state {
		case api.SynSent:
			s.close(20)
			s.is(api.Closed, api.OK)
			s.due(0)
			s.closeFails(20, api.ErrState)
			s.writeFails("x", 20, api.ErrState)
			s.tick(9999)
			s.numbers(100, 101, 0, 0)
		case api.SynRcvd:
			s.close(20)
			s.is(api.SynRcvd, api.OK)
			s.closeFails(20, api.ErrState)
			s.due(8)
		case api.Estab:
			s.close(20, own(api.ACK|api.FIN, sent, expected, ""))
			s.is(api.FinWait1, api.OK)
			s.closeFails(20, api.ErrState)
		case api.CloseWait:
			s.close(20, own(api.ACK|api.FIN, sent, expected, ""))
			s.is(api.LastAck, api.OK)
			s.closeFails(20, api.ErrState)
		default:
			s.closeFails(20, api.ErrState)
			s.is(state, api.OK)
		}
	}
}

// 18.7: Abort, by states.
func TestAbort(t *testing.T) {
	for state, s := range begun(t) {
		_, sent, _, _ := s.c.Numbers()
		switch state {
		case api.Closed:
			s.abort()
			s.is(api.Closed, api.OK)
			continue
		case api.SynRcvd, api.Estab, api.FinWait1, api.FinWait2, api.CloseWait:
			s.abort(own(api.RST, sent, 0, ""))
		default:
			s.abort()
		}
		s.is(api.Closed, api.ErrReset)
		s.due(0)
		s.abort()
		s.closeFails(20, api.ErrReset)
		s.tick(9999)
	}
	s := stands(t, set, 25)
	s.take(far(api.ACK, 301, 101, 25, "abc"), 3)
	s.write("xy", 4, 2, room(37, own(api.ACK|api.PSH, 101, 304, "xy")))
	s.abort(room(37, own(api.RST, 103, 0, "")))
	s.read(9, 5, "abc")
	s.readFails(9, 5, api.ErrReset)
}

// 18.8: the least clock is told.
func TestDue(t *testing.T) {
	s := stands(t, set, 25)
	s.write("abc", 3, 3, own(api.ACK|api.PSH, 101, 301, "abc"))
	s.due(9)
	s.take(far(api.ACK, 301, 101, 25, "x"), 4)
	s.due(7)
	f := s.fork()
	f.tick(7, room(39, own(api.ACK, 104, 302, "")))
	f.due(9)
	s.take(far(api.ACK, 302, 101, 25, "y"), 5, room(38, own(api.ACK, 104, 303, "")))
	s.take(far(api.ACK, 303, 101, 25, "z"), 8)
	s.due(9)
}

// 18.8: a fork goes its own way, and so does that of which it is one.
func TestFork(t *testing.T) {
	for state := range begun(t) {
		for _, touch := range []func(s side){
			func(s side) {
				_, sent, expected, _ := s.c.Numbers()
				s.c.Take(sacks(far(api.ACK|api.FIN, expected, sent, 3, "xyz"), 101, 102), 20)
			},
			func(s side) {
				_, _, expected, _ := s.c.Numbers()
				s.c.Take(far(api.RST, expected, 0, 3, ""), 20)
			},
			func(s side) { s.c.Take(with(far(api.SYN|api.ACK, 7, 101, 3, ""), ours), 20) },
			func(s side) { s.c.Take(far(api.SYN, 7, 0, 3, ""), 20) },
			func(s side) { s.c.Tick(99) },
			func(s side) { s.c.Write("wxyz", 20) },
			func(s side) { s.c.Read(2, 20) },
			func(s side) { s.c.Close(20) },
			func(s side) { s.c.Abort() },
		} {
			s, want := begun(t)[state], begun(t)[state]
			f := s.fork()
			touch(f)
			alike(t, s, want)
			s, want = begun(t)[state], begun(t)[state]
			f = s.fork()
			touch(s)
			alike(t, f, want)
		}
	}
}

// alike looks whether two connections tell and do the same.
func alike(t *testing.T, s, want side) {
	t.Helper()
	for i := range 12 {
		x, e := want.c.State()
		s.is(x, e)
		a, n, p, w := want.c.Numbers()
		s.numbers(a, n, p, w)
		at, _ := want.c.Due()
		s.due(at)
		switch i % 6 {
		case 0:
			m, l, e := want.c.Write("klm", 30)
			if e != api.OK {
				s.writeFails("klm", 30, e)
			} else {
				s.write("klm", 30, m, l...)
			}
		case 1:
			x := far(api.ACK, p, n, 12, "uvwxyzuvwxyz")
			s.take(x, 31, want.c.Take(x, 31)...)
		case 2:
			data, l, e := want.c.Read(5, 32)
			if e != api.OK {
				s.readFails(5, 32, e)
			} else {
				s.read(5, 32, data, l...)
			}
		case 3:
			x := far(api.ACK, p+9, a, 12, "uvw")
			s.take(x, 33, want.c.Take(x, 33)...)
		case 4:
			s.tick(40+i, want.c.Tick(40+i)...)
		default:
			l, e := want.c.Close(50)
			if e != api.OK {
				s.closeFails(50, e)
			} else {
				s.close(50, l...)
			}
		}
	}
}

// What is answered is new memory: what a caller does to it is not seen, nor what he does to what he handed in.
func TestNewMemory(t *testing.T) {
	s := stands(t, set, 25)
	l := s.c.Take(far(api.ACK, 303, 101, 25, "c"), 3)
	m := s.c.Take(far(api.ACK, 305, 101, 25, "e"), 3)
	l[0].Opts.Sacks[0] = api.Range{}
	m[0].Opts.Sacks = append(m[0].Opts.Sacks[:1], api.Range{})
	s.take(far(api.ACK, 307, 101, 25, "g"), 3, sacks(own(api.ACK, 101, 301, ""), 303, 304, 305, 306, 307, 308))

	s.write("abcdef", 4, 6, own(api.ACK|api.PSH, 101, 301, "abcdef"))
	x := sacks(far(api.ACK, 301, 101, 25, ""), 102, 103, 105, 107)
	handed := append(x.Opts.Sacks, api.Range{From: 9, To: 9})
	s.take(x, 5)
	for i, r := range []api.Range{{From: 102, To: 103}, {From: 105, To: 107}, {From: 9, To: 9}} {
		if handed[i] != r {
			t.Errorf("Take changed what was handed in: %v", handed)
		}
		handed[i] = api.Range{From: 101, To: 107}
	}
	s.tick(10, own(api.ACK|api.PSH, 101, 301, "a"))
}

// P1: whatever it is given, a call ends, and does not panic.
func TestAnything(t *testing.T) {
	odd := []int{math.MinInt, -1 << 32, -half, -1, 0, 1, 7, 63, 64, 65535, 65536, 1<<20 + 1, half - 1, half, top, top + 1, tick, math.MaxInt}
	d := dice(18)
	for range 20000 {
		s := conn.Setup{MSS: d.of(odd), Room: d.of(odd), Delay: d.of(odd), First: d.of(odd), Least: d.of(odd), Most: d.of(odd), Tries: d.of(odd), Linger: d.of(odd)}
		if d.upTo(1) == 0 {
			s = conn.Setup{MSS: 1 + d.upTo(1459), Room: 1 + d.upTo(65534), Delay: d.upTo(3), First: 5, Least: 1, Most: 1 + d.upTo(9), Tries: d.upTo(32), Linger: 1 + d.upTo(9)}
		}
		e := api.Ends{IP: d.of(odd), Port: d.of(odd), FarIP: d.of(odd), FarPort: d.of(odd)}
		if d.upTo(1) == 0 {
			e = ends
		}
		any := api.Segment{From: d.of(odd), To: d.of(odd), Seq: d.of(odd), Ack: d.of(odd), Flags: d.of(odd), Window: d.of(odd), Urgent: d.of(odd)}
		if d.upTo(1) == 0 {
			any = with(far(d.upTo(63), d.of(odd), d.of(odd), d.upTo(65535), letters(d.upTo(2000))), api.Opts{MSS: d.of(odd), Sacks: []api.Range{{From: d.of(odd), To: d.of(odd)}}})
		}
		c, _, code := conn.Open(s, e, d.of(odd), d.of(odd))
		conn.Accept(s, e, d.of(odd), any, d.of(odd))
		if code != api.OK {
			continue
		}
		for range 5 {
			c.Take(any, d.of(odd))
			c.Tick(d.of(odd))
			c.Write(letters(d.upTo(99)), d.of(odd))
			c.Read(d.of(odd), d.of(odd))
			c = c.Fork()
			c.Due()
			c.State()
			c.Numbers()
		}
		c.Close(d.of(odd))
		c.Abort()
	}
}
