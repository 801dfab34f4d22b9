package conn_test

import (
	"testing"

	"sternpost/api"
	"sternpost/conn"
)

// wide has room for as many segments as a valve lets through.
var wide = conn.Setup{MSS: 10, Room: 1000, Delay: 3, First: 8, Least: 4, Most: 60, Tries: 2, Linger: 20}

// big is a segment of a connection that is wide.
func big(flags, at, ack int, data string) api.Segment { return room(1000, own(flags, at, ack, data)) }

// flying is a wide connection that wrote 200 bytes at 2, of which 40 are on their way; its wait is 6.
func flying(t *testing.T) side {
	t.Helper()
	s := stands(t, wide, 1000)
	d := letters(200)
	s.write(d, 2, 200, big(api.ACK, 101, 301, d[:10]), big(api.ACK, 111, 301, d[10:20]),
		big(api.ACK, 121, 301, d[20:30]), big(api.ACK, 131, 301, d[30:40]))
	s.due(8)
	return s
}

// part is bytes of those that such a connection wrote.
func part(flags, at int) api.Segment {
	return big(api.ACK|flags, at, 301, letters(200)[at-101:at-91])
}

// 18.3 (6): an Ack of what was not sent is answered, and nothing else of that segment counts.
func TestAckOfUnsent(t *testing.T) {
	for state, s := range begun(t) {
		switch state {
		case api.Closed, api.SynSent, api.SynRcvd:
			continue
		}
		acked, sent, expected, window := s.c.Numbers()
		for _, by := range []int{1, 2, 1000, half - 1} {
			f := s.fork()
			f.take(sacks(far(api.ACK|api.FIN, expected, sent+by, 7, "xy"), 101, 104), 20, own(api.ACK, sent, expected, ""))
			f.is(state, api.OK)
			f.numbers(acked, sent, expected, window)
			// Half a round on it is one of long ago.
			f.take(far(api.ACK, expected, sent+half, 7, ""), 20)
			f.numbers(acked, sent, expected, 7)
		}
	}
}

// 18.3 (6): what is acknowledged is so once; an older Ack takes nothing back.
func TestAckAdvances(t *testing.T) {
	s := flying(t)
	s.take(far(api.ACK, 301, 106, 1000, ""), 3, part(0, 141))
	s.numbers(106, 151, 301, 1000)
	s.take(far(api.ACK, 301, 101, 1000, ""), 3)
	s.take(far(api.ACK, 301, 151+half, 1000, ""), 3)
	s.numbers(106, 151, 301, 1000)
	s.take(far(api.ACK, 301, 151, 1000, ""), 4, part(0, 151), part(0, 161), part(0, 171), part(0, 181), part(0, 191))
	s.numbers(151, 201, 301, 1000)
}

// 18.3 (6): the clock is set anew by what is acknowledged, by nothing else; it is off, once all is.
func TestAckClock(t *testing.T) {
	x := set
	x.Tries = 1
	s := stands(t, x, 1000)
	d := letters(40)
	s.write(d, 2, 40, own(api.ACK, 101, 301, d[:10]), own(api.ACK, 111, 301, d[10:20]),
		own(api.ACK, 121, 301, d[20:30]), own(api.ACK|api.PSH, 131, 301, d[30:]))
	s.due(8)
	s.take(far(api.ACK, 301, 101, 1000, ""), 5)
	s.take(far(api.ACK, 301, 99, 1000, ""), 6)
	s.due(8)
	s.tick(8, own(api.ACK|api.PSH, 101, 301, d[:10]))
	s.due(20)
	// The sample was let go, so the wait is twice as long still; tries begin anew.
	s.take(far(api.ACK, 301, 112, 1000, ""), 9)
	s.due(21)
	s.tick(20)
	s.tick(21, own(api.ACK|api.PSH, 112, 301, d[11:21]))
	s.due(45)
	s.take(far(api.ACK, 301, 112, 1000, ""), 22)
	f := s.fork()
	f.tick(45, own(api.RST|api.ACK, 141, 301, ""))
	f.is(api.Closed, api.ErrTime)
	s.take(far(api.ACK, 301, 141, 1000, ""), 23)
	s.due(0)
}

// 18.3 (6): the third acknowledgement that tells nothing new tells of a loss; what is missing goes ahead of what is sent for the first time.
func TestThreeSame(t *testing.T) {
	s := flying(t)
	told := far(api.ACK, 301, 101, 1000, "")
	s.take(told, 3)
	s.take(told, 3)
	s.take(told, 4, part(api.PSH, 101), part(0, 141))
	s.numbers(101, 151, 301, 1000)
	// Neither the clock nor the wait is touched by that.
	s.due(8)
	s.take(told, 5, part(0, 151))
	f := s.fork()
	f.tick(8, part(api.PSH, 101))
	f.due(20)
	// What is acknowledged ahead of all that was lost tells of the next loss.
	s.take(far(api.ACK, 301, 121, 1000, ""), 6, part(api.PSH, 121), part(0, 161))
	s.due(12)
	// The samples were let go: the one that is under way began at 6.
	s.take(far(api.ACK, 301, 141, 1000, ""), 7)
	s.due(13)
	s.take(far(api.ACK, 301, 171, 1000, ""), 8, part(0, 171), part(0, 181), part(0, 191))
	// 2 ticks, as for the SYN: what lies apart is less, and the wait 5.
	s.due(13)
}

// 18.3 (6): what does not count as an acknowledgement that tells nothing new.
func TestNotSame(t *testing.T) {
	told := far(api.ACK, 301, 101, 1000, "")
	for _, x := range []api.Segment{
		far(api.ACK, 301, 100, 1000, ""), far(api.ACK, 301, 101, 999, ""), far(api.ACK, 301, 101, 1001, ""),
		far(api.ACK|api.SYN, 301, 101, 1000, ""), far(api.ACK, 300, 101, 1000, ""), far(api.PSH, 301, 0, 1000, ""),
	} {
		s := flying(t)
		s.take(told, 3)
		s.take(told, 3)
		s.c.Take(x, 3)
		if _, sent, _, _ := s.c.Numbers(); sent != 141 {
			t.Errorf("%+v counts", x)
		}
	}
	s := flying(t)
	s.take(told, 3)
	s.take(told, 3)
	s.take(far(api.ACK, 301, 101, 1000, "x"), 3)
	s.take(far(api.ACK, 302, 101, 1000, ""), 3, room(999, own(api.ACK|api.PSH, 101, 302, letters(10))),
		room(999, own(api.ACK, 141, 302, letters(200)[40:50])))

	// Without a byte on its way nothing counts, a FIN is none.
	s = stands(t, wide, 1000)
	for range 4 {
		s.take(told, 3)
	}
	s.write("abc", 4, 3, big(api.ACK|api.PSH, 101, 301, "abc"))
	s.take(told, 5)
	s.take(told, 5)
	s.take(told, 5, big(api.ACK|api.PSH, 101, 301, "abc"))
	s.close(6, big(api.ACK|api.FIN, 104, 301, ""))
	s.take(far(api.ACK, 301, 104, 1000, ""), 7)
	for range 5 {
		s.take(far(api.ACK, 301, 104, 1000, ""), 7)
	}
}

// 18.3 (6): what is acknowledged makes those count anew that tell nothing new.
func TestSameAnew(t *testing.T) {
	s := flying(t)
	told := far(api.ACK, 301, 101, 1000, "")
	s.take(told, 3)
	s.take(told, 3)
	s.take(far(api.ACK, 301, 111, 1000, ""), 3, part(0, 141), part(0, 151))
	told.Ack = 111
	s.take(told, 3)
	s.take(told, 3)
	s.take(told, 3, part(api.PSH, 111))
}

// 18.3 (6): as long as it mends, the FIN goes with what is missing, if it was sent and follows.
func TestMissingWithFin(t *testing.T) {
	s := stands(t, wide, 1000)
	d := letters(15)
	s.write(d, 2, 15, big(api.ACK, 101, 301, d[:10]))
	s.close(3, big(api.ACK|api.PSH|api.FIN, 111, 301, d[10:]))
	told := far(api.ACK, 301, 101, 1000, "")
	s.take(told, 4)
	s.take(told, 4)
	s.take(told, 4, big(api.ACK|api.PSH, 101, 301, d[:10]))
	f := s.fork()
	s.take(far(api.ACK, 301, 111, 1000, ""), 5, big(api.ACK|api.PSH|api.FIN, 111, 301, d[10:]))
	s.take(far(api.ACK, 301, 116, 1000, ""), 6, big(api.ACK|api.FIN, 116, 301, ""))
	s.is(api.FinWait1, api.OK)
	s.take(far(api.ACK, 301, 117, 1000, ""), 7)
	s.is(api.FinWait2, api.OK)
	f.take(far(api.ACK, 301, 117, 1000, ""), 7)
	f.is(api.FinWait2, api.OK)
	f.due(0)
}

// 18.3 (6): where all that was sent was received apart, the byte at the left is missing.
func TestMissingApart(t *testing.T) {
	s := flying(t)
	told := sacks(far(api.ACK, 301, 101, 1000, ""), 101, 141)
	s.take(told, 3)
	s.take(told, 3)
	s.take(told, 4, big(api.ACK|api.PSH, 101, 301, "a"), part(0, 141))
}

// 18.3 (6): Sacks are told behind what is sent again by the same segment, and only if the other side had SackOK.
func TestSacks(t *testing.T) {
	s := flying(t)
	told := far(api.ACK, 301, 101, 1000, "")
	s.take(told, 3)
	s.take(sacks(told, 111, 121), 3)
	s.take(sacks(told, 103, 106, 131, 141), 4, part(api.PSH, 101), part(0, 141))
	s.tick(8, big(api.ACK|api.PSH, 101, 301, "ab"))
	s.take(far(api.ACK, 301, 103, 1000, ""), 9)
	// 3 bytes are there: of the hole behind them, 5 are missing up to the next stretch.
	s.tick(21, big(api.ACK|api.PSH, 106, 301, letters(10)[5:]))
	// Ranges that are none, or lie elsewhere, are passed over; a segment with an old Ack tells some, too.
	s.take(sacks(far(api.ACK, 301, 102, 1000, ""), 111, 109, 99, 140, 0, 7, 106, 108), 22)
	s.tick(45, big(api.ACK|api.PSH, 108, 301, letters(10)[7:]))

	x := accepted(t, wide, api.Opts{MSS: 10}, 1000)
	x.take(far(api.ACK, 301, 101, 1000, ""), 2)
	x.write("abcd", 3, 4, big(api.ACK|api.PSH, 101, 301, "abcd"))
	x.take(sacks(far(api.ACK, 301, 101, 1000, ""), 101, 103), 4)
	x.tick(9, big(api.ACK|api.PSH, 101, 301, "abcd"))
}

// 18.3 (6): the other side's window is that of the segment that is not older than the one that told it last.
func TestWindowOlder(t *testing.T) {
	s := flying(t)
	s.take(far(api.ACK, 301, 111, 900, "xyz"), 3, room(997, own(api.ACK, 141, 304, letters(200)[40:50])),
		room(997, own(api.ACK, 151, 304, letters(200)[50:60])))
	for _, x := range []struct {
		s    api.Segment
		want int
	}{
		{far(api.ACK, 304, 111, 800, ""), 800}, {far(api.ACK, 304, 111, 700, ""), 700},
		{far(api.ACK, 304, 110, 600, ""), 700}, {far(api.ACK, 303, 111, 600, "zu"), 700},
		{far(api.ACK, 305, 110, 500, ""), 500}, {far(api.ACK, 304, 121, 400, ""), 500},
		{far(api.ACK, 305, 109, 400, ""), 500}, {far(api.ACK, 305, 110, 300, ""), 300},
		{far(api.ACK, 305, 111, 200, ""), 200}, {far(api.ACK, 305, 161+half, 100, ""), 200},
	} {
		s.c.Take(x.s, 3)
		_, _, _, window := s.c.Numbers()
		if window != x.want {
			t.Fatalf("%+v: window %d, want %d", x.s, window, x.want)
		}
	}
}

// 18.3 (6): numbers go round in that, too.
func TestWindowRound(t *testing.T) {
	c, _, _ := conn.Accept(set, ends, top-2, far(api.SYN, top-1, 0, 9, ""), 0)
	s := side{t, c}
	s.take(far(api.ACK, top, top-1, 10, ""), 1)
	s.numbers(top-1, top-1, top, 10)
	s.write("abcd", 2, 4, own(api.ACK|api.PSH, top-1, top, "abcd"))
	s.take(far(api.ACK, top, 2, 11, "xyz"), 3)
	s.numbers(2, 2, 2, 11)
	s.take(far(api.ACK, top, top, 12, "xyzu"), 4, room(36, own(api.ACK, 2, 3, "")))
	s.numbers(2, 2, 3, 11)
	s.take(far(api.ACK, 2, 2, 12, "u"), 4, room(36, own(api.ACK, 2, 3, "")))
	s.take(far(api.ACK, 3, 0, 13, ""), 4)
	s.numbers(2, 2, 3, 13)
	s.read(9, 4, "xyzu")
}

// 18.3 (6): as long as the other side's window is 0, and it answers, it is asked without end.
func TestWindowZero(t *testing.T) {
	s := stands(t, set, 0)
	s.write("abc", 3, 3)
	at := 9
	s.due(at)
	s.tick(at, own(api.ACK|api.PSH, 101, 301, "a"))
	for _, wait := range []int{12, 24, 48, 60, 60, 60, 60} {
		s.due(at + wait)
		f := s.fork()
		s.take(far(api.ACK, 301, 101, 0, ""), at+1)
		at += wait
		s.tick(at, own(api.ACK|api.PSH, 101, 301, "a"))
		// Without an answer it ends, once it was sent again twice.
		f.tick(at, own(api.ACK|api.PSH, 101, 301, "a"))
		last, _ := f.c.Due()
		f.tick(last, own(api.RST|api.ACK, 102, 301, ""))
		f.is(api.Closed, api.ErrTime)
	}
	s.tick(at+60, own(api.ACK|api.PSH, 101, 301, "a"))
	// An old segment tells no window, but that the other side is there.
	s.take(far(api.ACK, 300, 101, 9, "xy"), at+60)
	s.numbers(101, 102, 302, 0)
	s.tick(at+63, room(39, own(api.ACK, 102, 302, "")))
	s.tick(at+120, room(39, own(api.ACK|api.PSH, 101, 302, "a")))
}
