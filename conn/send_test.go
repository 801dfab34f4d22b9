package conn_test

import (
	"testing"

	"sternpost/api"
	"sternpost/conn"
)

// 18.4: in which states something may be sent.
func TestStatesThatSend(t *testing.T) {
	for state, s := range begun(t) {
		data, fin := api.Segment{}, false
		switch state {
		case api.Estab:
			data = own(api.ACK|api.PSH, 104, 304, "xy")
		case api.CloseWait:
			data = own(api.ACK|api.PSH, 104, 305, "xy")
		case api.SynSent, api.SynRcvd:
		default:
			fin = true
		}
		switch {
		case fin:
			s.writeFails("xy", 20, api.ErrState)
		case data.Data == "":
			s.write("xy", 20, 2)
		default:
			s.write("xy", 20, 2, data)
		}
	}
	// Bytes that wait for room are sent, once it has closed: in FinWait1, Closing, LastAck, with its FIN.
	for _, x := range []struct{ flags, state int }{{api.ACK, api.FinWait1}, {api.ACK | api.FIN, api.Closing}} {
		s := stands(t, set, 0)
		s.write("abc", 3, 3)
		s.close(4)
		s.is(api.FinWait1, api.OK)
		if x.flags&api.FIN != 0 {
			s.take(far(x.flags, 301, 101, 0, ""), 5, own(api.ACK, 101, 302, ""))
		}
		s.is(x.state, api.OK)
		_, _, expected, _ := s.c.Numbers()
		s.take(far(api.ACK, expected, 101, 25, ""), 6, own(api.ACK|api.PSH|api.FIN, 101, expected, "abc"))
		s.numbers(101, 105, expected, 25)
	}
	s := stands(t, set, 0)
	s.write("abc", 3, 3)
	s.take(far(api.ACK|api.FIN, 301, 101, 0, ""), 4, own(api.ACK, 101, 302, ""))
	s.close(5)
	s.is(api.LastAck, api.OK)
	s.take(far(api.ACK, 302, 101, 25, ""), 6, own(api.ACK|api.PSH|api.FIN, 101, 302, "abc"))
}

// 18.4: at most the MSS, the other side's window, the valve's; bytes on their way count from the queue's left on.
func TestHowMuch(t *testing.T) {
	d := letters(60)
	x := set
	x.Room = 100
	all := func(at, n int, flags int) api.Segment {
		return room(100, own(api.ACK|flags, at, 301, d[at-101:at-101+n]))
	}
	for _, y := range []struct {
		window int
		want   []api.Segment
	}{
		{0, nil},
		{1, []api.Segment{all(101, 1, 0)}},
		{9, []api.Segment{all(101, 9, 0)}},
		{10, []api.Segment{all(101, 10, 0)}},
		{19, []api.Segment{all(101, 10, 0)}},
		{20, []api.Segment{all(101, 10, 0), all(111, 10, 0)}},
		{39, []api.Segment{all(101, 10, 0), all(111, 10, 0), all(121, 10, 0)}},
		{40, []api.Segment{all(101, 10, 0), all(111, 10, 0), all(121, 10, 0), all(131, 10, 0)}},
		{65535, []api.Segment{all(101, 10, 0), all(111, 10, 0), all(121, 10, 0), all(131, 10, 0)}},
	} {
		s := stands(t, x, y.window)
		s.write(d, 3, 60, y.want...)
	}
	// A window that shrank below what is on its way lets nothing through.
	s := stands(t, x, 40)
	s.write(d, 3, 60, all(101, 10, 0), all(111, 10, 0), all(121, 10, 0), all(131, 10, 0))
	s.take(far(api.ACK, 301, 111, 15, ""), 4)
	s.take(far(api.ACK, 301, 121, 39, ""), 5, all(141, 10, 0))
	s.take(far(api.ACK, 301, 121, 30, ""), 6)
	s.take(far(api.ACK, 301, 121, 40, ""), 6, all(151, 10, api.PSH))
}

// 18.4: less than an MSS waits, as long as bytes are on their way, and its owner has not closed it.
func TestSmallWaits(t *testing.T) {
	s := stands(t, set, 35)
	s.write("abc", 3, 3, own(api.ACK|api.PSH, 101, 301, "abc"))
	s.write("defghi", 3, 6)
	s.write("jkl", 3, 3)
	s.write("", 3, 0)
	f := s.fork()
	// As much as an MSS does not wait, what is behind it does.
	s.write("mnopq", 3, 5, own(api.ACK, 104, 301, "defghijklm"))
	s.take(far(api.ACK, 301, 104, 35, ""), 4)
	s.take(far(api.ACK, 301, 114, 35, ""), 4, own(api.ACK|api.PSH, 114, 301, "nopq"))
	// A FIN on its way is no byte: what waits is sent with that by its owner's Close.
	f.close(4, own(api.ACK|api.PSH|api.FIN, 104, 301, "defghijkl"))

	// Once it has closed it, small pieces go, as far as there is room.
	s = stands(t, set, 5)
	s.write("abcdefghij", 3, 10, own(api.ACK, 101, 301, "abcde"))
	s.close(4)
	s.take(far(api.ACK, 301, 103, 5, ""), 5, own(api.ACK, 106, 301, "fg"))
	s.take(far(api.ACK, 301, 103, 8, ""), 5, own(api.ACK|api.PSH|api.FIN, 108, 301, "hij"))
	s.numbers(103, 112, 301, 8)
}

// 18.4: PSH and FIN go with the last byte; a FIN alone needs no window, but all bytes have to be sent.
func TestFin(t *testing.T) {
	s := stands(t, set, 0)
	s.close(3, own(api.ACK|api.FIN, 101, 301, ""))
	s.numbers(101, 102, 301, 0)
	// It is sent once.
	s.take(far(api.ACK, 301, 101, 25, ""), 4)
	s.due(9)
	s.tick(9, own(api.ACK|api.FIN, 101, 301, ""))

	s = stands(t, set, 3)
	s.write("abc", 3, 3, own(api.ACK|api.PSH, 101, 301, "abc"))
	s.close(4, own(api.ACK|api.FIN, 104, 301, ""))
	// The bytes alone are the sample: 2 ticks, a wait of 5.
	s.take(far(api.ACK, 301, 104, 3, ""), 5)
	s.due(10)
	s.take(far(api.ACK, 301, 105, 3, ""), 6)
	s.is(api.FinWait2, api.OK)
	s.due(0)

	s = stands(t, set, 25)
	d := letters(20)
	s.write(d, 3, 20, own(api.ACK, 101, 301, d[:10]), own(api.ACK|api.PSH, 111, 301, d[10:]))
}

// 18.4: the byte that asked whether there is room is one of those that were sent; the FIN follows without it.
func TestFinBehindProbe(t *testing.T) {
	s := stands(t, set, 0)
	s.write("a", 3, 1)
	s.close(4)
	s.numbers(101, 101, 301, 0)
	s.tick(9, own(api.ACK|api.PSH, 101, 301, "a"))
	s.numbers(101, 102, 301, 0)
	f := s.fork()
	s.take(far(api.ACK, 301, 101, 0, ""), 10, own(api.ACK|api.FIN, 102, 301, ""))
	s.numbers(101, 103, 301, 0)
	s.tick(21, own(api.ACK|api.PSH|api.FIN, 101, 301, "a"))
	f.tick(21, own(api.ACK|api.PSH, 101, 301, "a"))
}

// 18.4: the clock is set by what is sent, if it is off, and where bytes wait for a window of 0.
func TestClockIsSet(t *testing.T) {
	s := stands(t, set, 25)
	s.write("", 3, 0)
	s.due(0)
	s.write("abc", 4, 3, own(api.ACK|api.PSH, 101, 301, "abc"))
	s.due(10)
	s.write("0123456789", 5, 10, own(api.ACK|api.PSH, 104, 301, "0123456789"))
	s.due(10)
	s.take(far(api.ACK, 301, 114, 0, ""), 6)
	s.due(0)
	s.write("d", 7, 1)
	at, _ := s.c.Due()
	s.write("e", 8, 1)
	s.due(at)
	s.take(far(api.ACK, 301, 114, 0, ""), 9)
	s.due(at)
	// It stays set, once there is room.
	s.take(far(api.ACK, 301, 114, 9, ""), 10, own(api.ACK|api.PSH, 114, 301, "de"))
	s.due(at)
	s.take(far(api.ACK, 301, 116, 0, ""), 11)
	s.due(0)
	// By an acknowledgement that leaves nothing on its way, too.
	s = stands(t, set, 10)
	s.write(letters(20), 3, 20, own(api.ACK, 101, 301, letters(10)))
	s.take(far(api.ACK, 301, 111, 0, ""), 4)
	s.due(9)
	s.tick(9, own(api.ACK|api.PSH, 111, 301, "k"))
}

// 18.5: the first sample is of the SYN, that of the one which answers, too.
func TestSampleOfSyn(t *testing.T) {
	s := opened(t, wide)
	s.write("a", 1, 1)
	s.take(with(far(api.SYN|api.ACK, 300, 101, 1000, ""), ours), 7, big(api.ACK, 101, 301, ""), big(api.ACK|api.PSH, 101, 301, "a"))
	// 7 ticks: a mean of 56, a deviation of 14.
	s.due(7 + 21)
	s = accepted(t, wide, ours, 1000)
	s.write("a", 1, 1)
	s.take(far(api.ACK, 301, 101, 1000, ""), 7, big(api.ACK|api.PSH, 101, 301, "a"))
	s.due(7 + 21)
	// One that was sent again is not measured: the wait stays the doubled one.
	s = opened(t, wide)
	s.write("a", 1, 1)
	s.tick(8, with(big(api.SYN, 100, 0, ""), ours))
	s.take(with(far(api.SYN|api.ACK, 300, 101, 1000, ""), ours), 9, big(api.ACK, 101, 301, ""), big(api.ACK|api.PSH, 101, 301, "a"))
	s.due(9 + 16)
}

// 18.5: of several segments the first one is measured, as long as that is under way; then the next one that is sent for the first time.
func TestSamples(t *testing.T) {
	s := stands(t, wide, 1000) // mean 16, deviation 4, wait 6
	d := letters(200)
	s.write(d[:50], 10, 50, part(0, 101), part(0, 111), part(0, 121), part(0, 131))
	s.write(d[50:60], 11, 10)
	s.due(16)
	// The number of the sample is ahead of that Ack.
	s.take(far(api.ACK, 301, 105, 1000, ""), 12)
	s.due(12 + 6)
	s.take(far(api.ACK, 301, 111, 1000, ""), 14, part(0, 141), part(api.PSH, 151))
	// 4 ticks: mean 18, deviation 5.
	s.due(14 + 7)
	s.take(far(api.ACK, 301, 141, 1000, ""), 15)
	s.due(15 + 7)
	f := s.fork()
	s.take(far(api.ACK, 301, 151, 1000, ""), 20)
	// 6 ticks: mean 22, deviation 8.
	s.due(20 + 10)
	// Sent again: the next sample is let go, and the wait is twice as long, until there is another one.
	s.write("u", 21, 1)
	s.tick(30, part(api.PSH, 151))
	s.due(30 + 20)
	s.take(far(api.ACK, 301, 161, 1000, ""), 31, big(api.ACK|api.PSH, 161, 301, "u"))
	s.due(31 + 20)
	s.take(far(api.ACK, 301, 162, 1000, ""), 33)
	s.write("v", 40, 1, big(api.ACK|api.PSH, 162, 301, "v"))
	// 2 ticks: mean 22, deviation 6.
	s.due(40 + 8)
	// An Ack may go beyond the number.
	f.take(far(api.ACK, 301, 161, 1000, ""), 20)
	f.due(0)
	f.write("v", 40, 1, big(api.ACK|api.PSH, 161, 301, "v"))
	f.due(40 + 10)
}

// 18.5: a sample is of at most 2^20 ticks.
func TestLongSample(t *testing.T) {
	for _, x := range []struct{ ticks, wait int }{{1 << 20, 60}, {1<<20 + 1, 60}, {1 << 30, 60}} {
		s := stands(t, wide, 1000)
		s.write("a", 10, 1, big(api.ACK|api.PSH, 101, 301, "a"))
		s.take(far(api.ACK, 301, 102, 1000, ""), 10+x.ticks)
		s.write("b", 10+x.ticks, 1, big(api.ACK|api.PSH, 102, 301, "b"))
		s.due(10 + x.ticks + x.wait)
	}
}

// 18.5: a FIN is measured, too; the byte that asks for room is not, as it is sent because none was answered.
func TestOtherSamples(t *testing.T) {
	s := stands(t, wide, 1000)
	s.write("a", 10, 1, big(api.ACK|api.PSH, 101, 301, "a"))
	s.close(10, big(api.ACK|api.FIN, 102, 301, ""))
	f := s.fork()
	f.take(far(api.ACK, 301, 102, 1000, ""), 20)
	// 10 ticks: mean 24, deviation 11.
	f.due(20 + 14)
	s = stands(t, wide, 1000)
	s.close(10, big(api.ACK|api.FIN, 101, 301, ""))
	s.tick(16, big(api.ACK|api.FIN, 101, 301, ""))
	s.due(16 + 12)

	s = stands(t, wide, 0)
	s.write("abc", 3, 3)
	s.tick(9, big(api.ACK|api.PSH, 101, 301, "a"))
	s.due(9 + 12)
	s.take(far(api.ACK, 301, 102, 1000, ""), 10, big(api.ACK|api.PSH, 102, 301, "bc"))
	s.due(10 + 12)
}

// 18.6: nothing is due ahead of its tick, nor once it is closed.
func TestTickNothing(t *testing.T) {
	for state, s := range begun(t) {
		at, ok := s.c.Due()
		if quiet := state == api.Closed || state == api.Estab || state == api.FinWait2 || state == api.CloseWait; ok == quiet {
			t.Errorf("state %d: due %v", state, ok)
		}
		if !ok {
			s.tick(api.MaxTick)
			s.is(state, api.OK)
			continue
		}
		s.tick(at - 1)
		s.is(state, api.OK)
		s.due(at)
	}
}

// 18.6: the clocks that are due at one tick, in their order: lingering ends all, an acknowledgement goes ahead of what is sent again.
func TestTickOrder(t *testing.T) {
	s := stands(t, set, 25)
	s.write("abc", 3, 3, own(api.ACK|api.PSH, 101, 301, "abc"))
	s.take(far(api.ACK, 301, 101, 25, "x"), 4)
	s.due(7)
	s.tick(50, room(39, own(api.ACK, 104, 302, "")), room(39, own(api.ACK|api.PSH, 101, 302, "abc")))
	s.due(62)
	s = begun(t)[api.TimeWait]
	s.take(far(api.ACK, 305, 105, 25, "x"), 11)
	s.due(14)
	s.tick(31)
	s.is(api.Closed, api.OK)
	s.due(0)
	s.tick(50)
}

// 18.6: it is sent again Tries times, then it is closed.
func TestTries(t *testing.T) {
	for _, tries := range []int{0, 1, 5, 32} {
		x := set
		x.Tries = tries
		syn := with(own(api.SYN, 100, 0, ""), ours)
		s := opened(t, x)
		for range tries {
			at, _ := s.c.Due()
			s.tick(at, syn)
		}
		at, _ := s.c.Due()
		s.tick(at, own(api.RST, 101, 0, ""))
		s.is(api.Closed, api.ErrTime)
		s.due(0)
		s.readFails(9, at, api.ErrTime)

		s = accepted(t, x, ours, 25)
		syn = with(own(api.SYN|api.ACK, 100, 301, ""), ours)
		for range tries {
			at, _ := s.c.Due()
			s.tick(at, syn)
		}
		at, _ = s.c.Due()
		s.tick(at, own(api.RST|api.ACK, 101, 301, ""))
		s.is(api.Closed, api.ErrTime)

		s = stands(t, x, 25)
		s.close(3, own(api.ACK|api.FIN, 101, 301, ""))
		for range tries {
			at, _ := s.c.Due()
			s.tick(at, own(api.ACK|api.FIN, 101, 301, ""))
		}
		at, _ = s.c.Due()
		s.tick(at, own(api.RST|api.ACK, 102, 301, ""))
		s.is(api.Closed, api.ErrTime)
		s.writeFails("x", at, api.ErrTime)
		s.closeFails(at, api.ErrTime)
	}
}

// 18.6: the wait is doubled each time, up to the greatest one.
func TestWaits(t *testing.T) {
	x := set
	x.Tries = 32
	s := opened(t, x)
	at := 0
	for _, wait := range []int{8, 16, 32, 60, 60, 60} {
		at += wait
		s.due(at)
		s.tick(at, with(own(api.SYN, 100, 0, ""), ours))
	}
	// It is set from the tick at which it is sent.
	s.tick(at+1000, with(own(api.SYN, 100, 0, ""), ours))
	s.due(at + 1060)
}

// 18.6: what is sent again is the first hole, of at most the MSS of both sides.
func TestHole(t *testing.T) {
	x := wide
	x.MSS, x.Tries = 100, 9
	c, _, e := conn.Accept(x, ends, 100, with(far(api.SYN, 300, 0, 1000, ""), api.Opts{MSS: 10, SackOK: true}), 0)
	if e != api.OK {
		t.Fatal(e)
	}
	s := side{t, c}
	s.take(far(api.ACK, 301, 101, 1000, ""), 2)
	s.write(letters(200), 2, 200, part(0, 101), part(0, 111), part(0, 121), part(0, 131))
	s.tick(8, part(api.PSH, 101))
	s.take(sacks(far(api.ACK, 301, 101, 1000, ""), 103, 106), 9)
	s.tick(20, big(api.ACK|api.PSH, 101, 301, "ab"))
	s.take(sacks(far(api.ACK, 301, 101, 1000, ""), 101, 103), 21)
	s.tick(44, big(api.ACK|api.PSH, 106, 301, letters(200)[5:15]))
	s.take(sacks(far(api.ACK, 301, 101, 1000, ""), 106, 141), 45)
	s.tick(104, big(api.ACK|api.PSH, 101, 301, "a"))
}

// 18.6: the FIN goes with the bytes behind which it follows, and with no others.
func TestSendAgainFin(t *testing.T) {
	x := set
	x.Tries = 9
	s := stands(t, x, 25)
	d := letters(12)
	s.write(d, 3, 12, own(api.ACK, 101, 301, d[:10]))
	s.close(3, own(api.ACK|api.PSH|api.FIN, 111, 301, d[10:]))
	s.due(9)
	s.tick(9, own(api.ACK|api.PSH, 101, 301, d[:10]))
	s.take(sacks(far(api.ACK, 301, 101, 25, ""), 101, 111), 10)
	s.tick(21, own(api.ACK|api.PSH|api.FIN, 111, 301, d[10:]))
	s.take(sacks(far(api.ACK, 301, 101, 25, ""), 111, 113), 22)
	s.tick(45, own(api.ACK|api.PSH, 101, 301, "a"))
	s.take(far(api.ACK, 301, 112, 25, ""), 46)
	s.tick(94, own(api.ACK|api.PSH|api.FIN, 112, 301, d[11:]))
	s.take(far(api.ACK, 301, 113, 25, ""), 95)
	s.tick(155, own(api.ACK|api.FIN, 113, 301, ""))
	s.take(far(api.ACK, 301, 114, 25, ""), 156)
	s.is(api.FinWait2, api.OK)
}

// 18.6: a wait that is over narrows the valve, if bytes are on their way; a SYN is none.
func TestLate(t *testing.T) {
	s := flying(t)
	s.tick(8, part(api.PSH, 101))
	// One segment might be on its way, while four are; what is acknowledged makes that two.
	s.take(far(api.ACK, 301, 131, 1000, ""), 9, part(0, 141))
	s.numbers(131, 151, 301, 1000)

	s = opened(t, wide)
	s.write(letters(200), 1, 200)
	s.tick(8, with(big(api.SYN, 100, 0, ""), ours))
	s.take(with(far(api.SYN, 300, 0, 1000, ""), ours), 9, with(big(api.SYN|api.ACK, 100, 301, ""), ours))
	s.tick(24, with(big(api.SYN|api.ACK, 100, 301, ""), ours))
	s.take(far(api.ACK, 301, 101, 1000, ""), 25, part(0, 101), part(0, 111), part(0, 121), part(0, 131))

	// What was counted is let go.
	s = flying(t)
	told := far(api.ACK, 301, 101, 1000, "")
	s.take(told, 3)
	s.take(told, 3)
	s.tick(8, part(api.PSH, 101))
	s.take(told, 9)
	s.take(told, 9)
	s.take(told, 9, part(api.PSH, 101), part(0, 141))
}

// 18.6: asking for room is no loss: the valve is as it was.
func TestProbeIsNotLate(t *testing.T) {
	s := stands(t, wide, 0)
	s.write(letters(200), 3, 200)
	s.tick(9, big(api.ACK|api.PSH, 101, 301, "a"))
	s.take(far(api.ACK, 301, 102, 1000, ""), 10, func() (l []api.Segment) {
		for at := 102; at < 142; at += 10 {
			l = append(l, big(api.ACK, at, 301, letters(200)[at-101:at-91]))
		}
		return l
	}()...)
}
