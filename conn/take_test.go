package conn_test

import (
	"testing"

	"sternpost/api"
)

// 18.2: nothing, if it is closed, or s may not be, or is not between its ports; whatever its state.
func TestTakeNothing(t *testing.T) {
	for state, s := range begun(t) {
		fin := far(api.ACK|api.FIN, 305, 105, 25, "xyz")
		for _, x := range []api.Segment{
			{}, far(api.RST, 305, 7, 25, ""), far(api.ACK|64, 304, 105, 25, ""), far(api.ACK, -1, 105, 25, ""),
			far(api.ACK, 304, 105, 65536, ""), far(api.RST|api.ACK, 304, 1<<32, 25, ""),
			{From: 81, To: 5, Seq: 305, Ack: 105, Flags: api.RST | api.ACK, Window: 25},
			{From: 80, To: 6, Seq: 305, Ack: 105, Flags: api.RST | api.ACK, Window: 25},
			{From: 5, To: 80, Seq: 305, Ack: 105, Flags: api.SYN | api.ACK, Window: 25},
			with(fin, api.Opts{Scale: 15, Scaled: true}), sacks(fin, 3, 3), far(fin.Flags, 305, 105, 25, letters(api.MaxData+1)),
		} {
			a, n, e, w := s.c.Numbers()
			s.take(x, 20)
			s.is(state, api.OK)
			s.numbers(a, n, e, w)
		}
	}
	s := begun(t)[api.Closed]
	for _, flags := range []int{0, api.ACK, api.SYN, api.SYN | api.ACK, api.RST, api.FIN | api.ACK} {
		x := far(flags, 305, 0, 25, "abc")
		if flags&api.ACK != 0 {
			x.Ack = 105
		}
		s.take(x, 20)
		s.is(api.Closed, api.OK)
		s.due(0)
	}
}

// 18.2 (1) to (3)
func TestSynSent(t *testing.T) {
	for _, x := range []struct {
		s    api.Segment
		want []api.Segment
		why  api.Code
	}{
		{far(api.ACK, 300, 99, 9, ""), []api.Segment{own(api.RST, 99, 0, "")}, api.OK},
		{far(api.ACK, 300, 100, 9, ""), []api.Segment{own(api.RST, 100, 0, "")}, api.OK},
		{far(api.ACK, 300, 102, 9, "abc"), []api.Segment{own(api.RST, 102, 0, "")}, api.OK},
		{far(api.SYN|api.ACK, 300, 0, 9, ""), []api.Segment{own(api.RST, 0, 0, "")}, api.OK},
		{far(api.SYN|api.ACK|api.FIN, 300, top, 9, ""), []api.Segment{own(api.RST, top, 0, "")}, api.OK},
		{far(api.RST|api.ACK, 300, 100, 9, ""), nil, api.OK},
		{far(api.RST|api.ACK|api.SYN, 300, 102, 9, ""), nil, api.OK},
		{far(api.RST, 300, 0, 9, ""), nil, api.OK},
		{far(api.RST|api.SYN, 300, 0, 9, ""), nil, api.OK},
		{far(api.RST|api.ACK, 300, 101, 9, ""), nil, api.ErrReset},
		{far(api.RST|api.ACK|api.SYN, 300, 101, 9, ""), nil, api.ErrReset},
		{far(api.ACK, 300, 101, 9, "abc"), nil, api.OK},
		{far(api.ACK|api.FIN, 300, 101, 9, ""), nil, api.OK},
		{far(0, 300, 0, 9, "abc"), nil, api.OK},
		{far(api.FIN, 300, 0, 9, ""), nil, api.OK},
	} {
		s := opened(t, set)
		s.take(x.s, 1, x.want...)
		s.numbers(100, 101, 0, 0)
		if x.why != api.OK {
			s.is(api.Closed, x.why)
			s.due(0)
			continue
		}
		s.is(api.SynSent, api.OK)
		s.due(8)
		s.tick(8, with(own(api.SYN, 100, 0, ""), ours))
	}
}

// 18.2 (4), with ACK: an acknowledgement, and what was written meanwhile. Data and FIN are not taken.
func TestSynSentStands(t *testing.T) {
	s := opened(t, set)
	s.write(letters(15), 1, 15)
	s.take(with(far(api.SYN|api.ACK|api.FIN, 300, 101, 25, "xy"), ours), 3,
		own(api.ACK, 101, 301, ""), own(api.ACK, 101, 301, letters(10)))
	s.is(api.Estab, api.OK)
	s.numbers(101, 111, 301, 25)
	s.read(9, 3, "")
	// The SYN was answered after 3 ticks: a wait of 9.
	s.due(12)

	s = opened(t, set)
	s.write("abc", 1, 3)
	s.take(far(api.SYN|api.ACK, 300, 101, 0, ""), 3, own(api.ACK, 101, 301, ""))
	s.numbers(101, 101, 301, 0)
	s.due(12)
	s.tick(12, own(api.ACK|api.PSH, 101, 301, "a"))

	s = opened(t, set)
	s.take(far(api.SYN|api.ACK|api.URG|api.PSH, top, 101, 65535, ""), 3, own(api.ACK, 101, 0, ""))
	s.numbers(101, 101, 0, 65535)
	s.due(0)
}

// 18.2 (4), without ACK: both ask at once. Its SYN is sent again: its sample is let go, its clock stays.
func TestSynSentBoth(t *testing.T) {
	s := opened(t, set)
	s.write("abc", 1, 3)
	s.take(with(far(api.SYN, 300, 0, 25, "xy"), ours), 3, with(own(api.SYN|api.ACK, 100, 301, ""), ours))
	s.is(api.SynRcvd, api.OK)
	s.numbers(100, 101, 301, 25)
	s.due(8)
	f := s.fork()
	f.tick(8, with(own(api.SYN|api.ACK, 100, 301, ""), ours))
	f.due(24)
	s.take(far(api.ACK, 301, 101, 25, ""), 5, own(api.ACK|api.PSH, 101, 301, "abc"))
	s.is(api.Estab, api.OK)
	// No sample was taken: the wait is the first one still.
	s.due(13)
	// That the other side knows of what was received apart is kept.
	s.take(far(api.ACK, 303, 101, 25, "z"), 6, sacks(own(api.ACK, 104, 301, ""), 303, 304))
}

// 18.3 (1): what fits, in a window from 301 to 340, and in an empty one.
func TestFits(t *testing.T) {
	old := own(api.ACK, 101, 301, "")
	for _, x := range []struct {
		s    api.Segment
		fits bool
	}{
		{far(api.ACK, 300, 101, 25, ""), false}, {far(api.ACK, 301, 101, 25, ""), true},
		{far(api.ACK, 340, 101, 25, ""), true}, {far(api.ACK, 341, 101, 25, ""), false},
		{far(api.ACK, 301+half, 101, 25, ""), false}, {far(api.ACK, top, 101, 25, ""), false},
		{far(api.ACK, 300, 101, 25, "x"), false}, {far(api.ACK, 299, 101, 25, "xy"), false},
		{far(api.ACK|api.FIN, 300, 101, 25, ""), false}, {far(api.ACK|api.FIN, 299, 101, 25, "x"), false},
		{far(api.ACK, 341, 101, 25, "x"), false}, {far(api.ACK, 291, 101, 25, letters(9)), false},
		// Neither its first nor its last number lies in the window, though others do.
		{far(api.ACK, 261, 101, 25, letters(81)), false}, {far(api.ACK, 300, 101, 25, letters(42)), false},
	} {
		s := stands(t, set, 30)
		if x.fits {
			s.take(x.s, 3)
			s.numbers(101, 101, 301, 25)
			continue
		}
		s.take(x.s, 3, old)
		s.numbers(101, 101, 301, 30)
		x.s.Flags |= api.RST
		s.take(x.s, 3)
		s.is(api.Estab, api.OK)
	}
	for _, x := range []struct {
		s        api.Segment
		expected int
		want     []api.Segment
	}{
		{far(api.ACK, 301, 101, 25, "x"), 302, nil},
		{far(api.ACK, 300, 101, 25, "xy"), 302, nil},
		{far(api.ACK, 301, 101, 25, letters(100)), 341, nil},
		{far(api.ACK, 261, 101, 25, letters(41)), 302, nil},
		{far(api.ACK, 261, 101, 25, letters(80)), 341, nil},
		{far(api.ACK, 340, 101, 25, "xy"), 301, []api.Segment{sacks(old, 340, 341)}},
		{far(api.ACK|api.FIN, 339, 101, 25, "x"), 301, []api.Segment{sacks(old, 339, 340)}},
		{far(api.ACK|api.FIN, 340, 101, 25, ""), 301, []api.Segment{old}},
	} {
		s := stands(t, set, 30)
		s.take(x.s, 3, x.want...)
		if x.s.Seq < 300 {
			// One that was sent ahead of the SYN tells no window.
			s.numbers(101, 101, x.expected, 30)
			continue
		}
		s.numbers(101, 101, x.expected, 25)
	}
}

// 18.3 (1): an empty window has no number, but what has no length may stand at the number expected.
func TestFitsEmptyWindow(t *testing.T) {
	s := stands(t, set, 25)
	s.take(far(api.ACK, 301, 101, 25, letters(40)), 3)
	s.take(far(api.ACK, 341, 101, 26, ""), 4)
	s.numbers(101, 101, 341, 26)
	none := room(0, own(api.ACK, 101, 341, ""))
	for _, x := range []api.Segment{
		far(api.ACK, 340, 101, 27, ""), far(api.ACK, 342, 101, 27, ""), far(api.ACK, 341, 101, 27, "x"),
		far(api.ACK|api.FIN, 341, 101, 27, ""), far(api.ACK, 340, 101, 27, "xy"),
	} {
		s.take(x, 4, none)
		s.numbers(101, 101, 341, 26)
		x.Flags |= api.RST
		s.take(x, 4)
		s.is(api.Estab, api.OK)
	}
	s.take(far(api.RST, 341, 0, 0, ""), 5)
	s.is(api.Closed, api.ErrReset)
}

// 18.3 (1): the window lies behind the other side's FIN, once that was taken.
func TestFitsBehindFin(t *testing.T) {
	s := begun(t)[api.CloseWait]
	s.take(far(api.ACK|api.FIN, 304, 104, 30, ""), 20, own(api.ACK, 104, 305, ""))
	s.numbers(104, 104, 305, 25)
	s.take(far(api.ACK, 304, 104, 30, ""), 20, own(api.ACK, 104, 305, ""))
	s.take(far(api.ACK, 344, 104, 30, ""), 20)
	s.numbers(104, 104, 305, 30)
	s.take(far(api.ACK, 345, 104, 31, ""), 20, own(api.ACK, 104, 305, ""))
	s.numbers(104, 104, 305, 30)
	// Data behind it are not taken, but acknowledged, in time.
	s.take(far(api.ACK, 305, 104, 30, "xy"), 21)
	s.due(24)
	s.tick(24, own(api.ACK, 104, 305, ""))
	s.readFails(9, 25, api.ErrEnd)
	s.take(far(api.ACK|api.FIN, 305, 104, 30, "xy"), 26, own(api.ACK, 104, 305, ""))
	s.is(api.CloseWait, api.OK)
}

// 18.3 (2): a RST at the number expected ends it, one elsewhere in the window is answered; in all states.
func TestRst(t *testing.T) {
	for state, s := range begun(t) {
		if state == api.SynSent || state == api.Closed {
			continue
		}
		_, sent, expected, _ := s.c.Numbers()
		for _, ack := range []int{0, 9999} {
			flags := api.RST
			if ack != 0 {
				flags |= api.ACK
			}
			f := s.fork()
			f.take(far(flags, expected+1, ack, 25, ""), 20, own(api.ACK, sent, expected, ""))
			f.take(far(flags|api.SYN, expected+39, ack, 25, ""), 20, own(api.ACK, sent, expected, ""))
			f.take(far(flags|api.FIN, expected-1, ack, 25, "xyz"), 20, own(api.ACK, sent, expected, ""))
			f.take(far(flags, expected+40, ack, 25, ""), 20)
			f.take(far(flags, expected-1, ack, 25, ""), 20)
			f.is(state, api.OK)
			f.take(far(flags, expected, ack, 25, ""), 20)
			f.is(api.Closed, api.ErrReset)
			f.due(0)
			f.tick(9999)
		}
	}
}

// 18.3 (3), (4): a SYN in the window is answered, and what has no ACK passed over; in all states.
func TestSynAndNoAck(t *testing.T) {
	for state, s := range begun(t) {
		if state == api.SynSent || state == api.Closed {
			continue
		}
		acked, sent, expected, window := s.c.Numbers()
		for _, x := range []api.Segment{far(api.SYN, expected, 0, 7, ""), far(api.SYN|api.ACK, expected, sent, 7, "xy"), far(api.SYN|api.FIN, expected+9, 0, 7, "")} {
			f := s.fork()
			f.take(x, 20, own(api.ACK, sent, expected, ""))
			f.is(state, api.OK)
			f.numbers(acked, sent, expected, window)
		}
		at, _ := s.c.Due()
		for _, x := range []api.Segment{far(0, expected, 0, 7, "xy"), far(api.FIN, expected, 0, 7, ""), far(api.PSH|api.URG, expected, 0, 0, "")} {
			f := s.fork()
			f.take(x, 20)
			f.is(state, api.OK)
			f.numbers(acked, sent, expected, window)
			f.due(at)
		}
	}
}

// 18.3 (5)
func TestSynRcvd(t *testing.T) {
	for _, ack := range []int{100, 99, 102, 103, 100 + half, 101 + half, 102 + half, 0, top} {
		s := accepted(t, set, ours, 25)
		s.take(far(api.ACK|api.FIN, 301, ack, 30, "xy"), 1, own(api.RST, ack, 0, ""))
		s.is(api.SynRcvd, api.OK)
		s.numbers(100, 101, 301, 25)
		s.due(8)
		s.read(9, 1, "")
	}
	s := accepted(t, set, ours, 25)
	s.write("abc", 1, 3)
	s.take(far(api.ACK, 301, 101, 30, ""), 2, own(api.ACK|api.PSH, 101, 301, "abc"))
	s.is(api.Estab, api.OK)
	s.numbers(101, 104, 301, 30)
	s.due(8)

	s = accepted(t, set, ours, 25)
	s.write("abc", 1, 3)
	s.close(1)
	s.is(api.SynRcvd, api.OK)
	s.due(8)
	f := s.fork()
	s.take(far(api.ACK, 301, 101, 30, ""), 2, own(api.ACK|api.PSH|api.FIN, 101, 301, "abc"))
	s.is(api.FinWait1, api.OK)
	s.numbers(101, 105, 301, 30)
	f.take(far(api.ACK|api.FIN, 301, 101, 30, "xy"), 2, room(38, own(api.ACK|api.PSH|api.FIN, 101, 304, "abc")))
	f.is(api.Closing, api.OK)
}

// 18.3 (5): what does not fit is answered ahead of that, its SYN that comes once more too.
func TestSynRcvdOld(t *testing.T) {
	s := accepted(t, set, ours, 25)
	s.take(far(api.SYN, 300, 0, 25, ""), 1, own(api.ACK, 101, 301, ""))
	s.take(far(api.SYN|api.ACK, 300, 101, 25, ""), 1, own(api.ACK, 101, 301, ""))
	s.is(api.SynRcvd, api.OK)
	s.numbers(100, 101, 301, 25)
	s.due(8)
}
