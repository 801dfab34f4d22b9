package conn_test

import (
	"testing"

	"sternpost/api"
)

// 18.3 (7): what its FIN that is acknowledged makes of each state; without it none changes.
func TestFinAcked(t *testing.T) {
	m := begun(t)
	s := m[api.FinWait1].fork()
	s.take(far(api.ACK, 304, 104, 25, ""), 20)
	s.is(api.FinWait1, api.OK)
	s.take(far(api.ACK, 304, 105, 25, "xy"), 20)
	s.is(api.FinWait2, api.OK)
	s.due(23)
	s.read(9, 20, "xy")

	s = m[api.Closing].fork()
	s.take(far(api.ACK, 305, 104, 25, ""), 20)
	s.is(api.Closing, api.OK)
	s.take(far(api.ACK, 305, 105, 25, ""), 20)
	s.is(api.TimeWait, api.OK)
	s.due(40)
	s.tick(39)
	s.tick(40)
	s.is(api.Closed, api.OK)

	s = m[api.LastAck].fork()
	s.take(far(api.ACK, 305, 104, 25, ""), 20)
	s.is(api.LastAck, api.OK)
	// No more: what else it has is not answered.
	s.take(far(api.ACK|api.FIN, 305, 105, 25, "xyz"), 20)
	s.is(api.Closed, api.OK)
	s.due(0)
	s.numbers(105, 105, 305, 25)
	s.readFails(9, 20, api.ErrEnd)
	s.writeFails("a", 20, api.ErrState)
	s.closeFails(20, api.ErrState)
	s.abort()
	s.is(api.Closed, api.OK)
}

// 18.3 (7), (8): one segment may acknowledge its FIN, and have the other one.
func TestBothFins(t *testing.T) {
	s := begun(t)[api.FinWait1]
	s.take(far(api.ACK|api.FIN, 304, 105, 25, "xyz"), 20, room(37, own(api.ACK, 105, 308, "")))
	s.is(api.TimeWait, api.OK)
	s.due(40)
	s.read(9, 21, "xyz")
	s.readFails(9, 21, api.ErrEnd)
}

// 18.3 (8): what a FIN that is taken makes of each state.
func TestFinTaken(t *testing.T) {
	for from, to := range map[int]int{api.Estab: api.CloseWait, api.FinWait1: api.Closing, api.FinWait2: api.TimeWait} {
		s := begun(t)[from]
		acked, sent, _, _ := s.c.Numbers()
		s.take(far(api.ACK|api.FIN, 304, acked, 25, "xy"), 20, room(38, own(api.ACK, sent, 307, "")))
		s.is(to, api.OK)
		s.numbers(acked, sent, 307, 25)
		s.read(9, 20, "xy")
		s.readFails(9, 20, api.ErrEnd)
	}
}

// 18.3 (8): a FIN waits for the bytes that lie ahead of it; the first one that came stays.
func TestFinWaits(t *testing.T) {
	for from, to := range map[int]int{api.Estab: api.CloseWait, api.FinWait1: api.Closing, api.FinWait2: api.TimeWait} {
		s := begun(t)[from]
		acked, sent, _, _ := s.c.Numbers()
		told := own(api.ACK, sent, 304, "")
		s.take(far(api.ACK|api.FIN, 306, acked, 25, "cd"), 20, sacks(told, 306, 308))
		s.take(far(api.ACK|api.FIN, 309, acked, 25, ""), 20, sacks(told, 306, 308))
		s.take(far(api.ACK|api.FIN, 305, acked, 25, ""), 20, sacks(told, 306, 308))
		s.is(from, api.OK)
		s.take(far(api.ACK, 304, acked, 25, "ab"), 20, room(36, own(api.ACK, sent, 309, "")))
		s.is(to, api.OK)
		s.read(9, 20, "abcd")
		s.readFails(9, 20, api.ErrEnd)
	}
}

// 18.3 (8), (9): a FIN that came ahead is taken by a segment without one, which is acknowledged at once.
func TestFinTakenLater(t *testing.T) {
	s := stands(t, set, 25)
	s.take(far(api.ACK|api.FIN, 303, 101, 25, ""), 3, own(api.ACK, 101, 301, ""))
	s.take(far(api.ACK, 301, 101, 25, "ab"), 4, room(38, own(api.ACK, 101, 304, "")))
	s.is(api.CloseWait, api.OK)
	// Where bytes lie at its number already, it is never reached.
	s = stands(t, set, 25)
	s.take(far(api.ACK, 302, 101, 25, "bc"), 3, sacks(own(api.ACK, 101, 301, ""), 302, 304))
	s.take(far(api.ACK|api.FIN, 301, 101, 25, "a"), 4, room(37, own(api.ACK, 101, 304, "")))
	s.is(api.Estab, api.OK)
}

// 18.3 (8): a FIN alone, ahead of bytes that are missing; the state in which it is taken counts, not that in which it came.
func TestFinComesAhead(t *testing.T) {
	s := begun(t)[api.Estab]
	s.take(far(api.ACK|api.FIN, 306, 104, 25, ""), 20, own(api.ACK, 104, 304, ""))
	s.close(21, own(api.ACK|api.FIN, 104, 304, ""))
	s.take(far(api.ACK, 304, 105, 25, "a"), 22)
	s.is(api.FinWait2, api.OK)
	s.take(far(api.ACK, 305, 105, 25, "b"), 23, room(38, own(api.ACK, 105, 307, "")))
	s.is(api.TimeWait, api.OK)
	s.due(43)
}

// 18.3 (8): in states in which no data may come none are taken, nor a FIN.
func TestNoData(t *testing.T) {
	for _, state := range []int{api.CloseWait, api.Closing, api.LastAck, api.TimeWait} {
		s := begun(t)[state]
		acked, sent, _, _ := s.c.Numbers()
		s.take(far(api.ACK|api.FIN, 305, acked, 25, "xy"), 20, own(api.ACK, sent, 305, ""))
		s.is(state, api.OK)
		s.numbers(acked, sent, 305, 25)
		s.readFails(9, 20, api.ErrEnd)
	}
}

// 18.3 (9): what is to be acknowledged at once, and what in time.
func TestAtOnce(t *testing.T) {
	old := own(api.ACK, 101, 301, "")
	s := stands(t, set, 25)
	s.take(far(api.ACK, 301, 101, 25, "a"), 3)
	s.due(6)
	f := s.fork()
	f.tick(5)
	f.tick(6, room(39, own(api.ACK, 101, 302, "")))
	f.due(0)
	f.take(far(api.ACK, 302, 101, 25, "b"), 7)
	f.due(10)
	// The clock is set already.
	s.take(far(api.ACK, 302, 101, 25, "b"), 4, room(38, own(api.ACK, 101, 303, "")))
	s.due(0)
	// So it does not go on, once that was acknowledged.
	s.take(far(api.ACK, 303, 101, 25, "c"), 5)
	s.due(8)

	// Something is apart, or was.
	s = stands(t, set, 25)
	s.take(far(api.ACK, 302, 101, 25, "b"), 3, sacks(old, 302, 303))
	s.take(far(api.ACK, 304, 101, 25, "d"), 3, sacks(old, 302, 303, 304, 305))
	s.take(far(api.ACK, 306, 101, 25, "f"), 3, sacks(old, 302, 303, 304, 305, 306, 307))
	s.take(far(api.ACK, 308, 101, 25, "h"), 3, sacks(old, 302, 303, 304, 305, 306, 307))
	s.take(far(api.ACK, 301, 101, 25, "abcdefg"), 4, room(32, own(api.ACK, 101, 309, "")))
	s.take(far(api.ACK, 309, 101, 25, "i"), 5)
	s.due(8)

	// It has a FIN, even one that is not taken.
	s = stands(t, set, 25)
	s.take(far(api.ACK|api.FIN, 303, 101, 25, ""), 3, old)
	s.take(far(api.ACK, 301, 101, 25, "a"), 4)
	s.due(7)

	// Without a delay all is.
	x := set
	x.Delay = 0
	s = stands(t, x, 25)
	s.take(far(api.ACK, 301, 101, 25, "a"), 3, room(39, own(api.ACK, 101, 302, "")))
	s.due(0)
	// What has no length is never acknowledged.
	s.take(far(api.ACK|api.PSH|api.URG, 302, 101, 25, ""), 3)
	s.due(0)
}

// Sacks are told only to a side that knows of them.
func TestNoSacks(t *testing.T) {
	s := accepted(t, set, api.Opts{MSS: 10}, 25)
	s.take(far(api.ACK, 301, 101, 25, ""), 1)
	s.take(far(api.ACK, 302, 101, 25, "b"), 3, own(api.ACK, 101, 301, ""))
}

// 18.3 (9): in TimeWait what has a length makes it linger anew, as long as it fits.
func TestLingerAnew(t *testing.T) {
	s := begun(t)[api.TimeWait]
	s.due(30)
	s.take(far(api.ACK, 305, 105, 25, ""), 11)
	s.take(far(api.ACK|api.FIN, 304, 105, 25, ""), 12, own(api.ACK, 105, 305, ""))
	s.due(30)
	s.take(far(api.ACK, 305, 105, 25, "x"), 13)
	s.due(16)
	s.tick(16, own(api.ACK, 105, 305, ""))
	s.due(33)
	s.take(far(api.ACK, 305, 105, 25, "x"), 31)
	// Nothing else is due beside lingering.
	s.tick(51)
	s.is(api.Closed, api.OK)
	s.due(0)
}

// 18.3 (10): bytes that go out acknowledge what came, and no acknowledgement is sent beside them.
func TestDataAcknowledge(t *testing.T) {
	s := stands(t, set, 25)
	s.write("abc", 2, 3, own(api.ACK|api.PSH, 101, 301, "abc"))
	s.write("def", 2, 3)
	s.take(far(api.ACK, 301, 101, 25, "x"), 3)
	s.due(6)
	f := s.fork()
	s.take(far(api.ACK, 302, 104, 25, "y"), 4, room(38, own(api.ACK|api.PSH, 104, 303, "def")))
	s.tick(6)
	// Without data nothing is to be acknowledged, but what goes out does so all the same.
	f.take(far(api.ACK, 302, 104, 25, ""), 4, room(39, own(api.ACK|api.PSH, 104, 302, "def")))
	f.tick(6)
	// A FIN does so, too.
	f.take(far(api.ACK, 302, 107, 25, "y"), 7)
	f.due(10)
	f.close(8, room(38, own(api.ACK|api.FIN, 107, 303, "")))
	f.tick(10)
}

// 18.3 (6), (10): what is sent again tells what was expected ahead of the segment's data; they are acknowledged besides.
func TestSentAgainWithData(t *testing.T) {
	s := flying(t)
	told := far(api.ACK, 301, 101, 1000, "")
	s.take(told, 3)
	s.take(told, 3)
	s.take(told, 4, part(api.PSH, 101), part(0, 141))
	s.take(far(api.ACK, 302, 101, 1000, "b"), 4, sacks(big(api.ACK, 151, 301, ""), 302, 303))
	// The window is as it was: what is sent again is all.
	s.take(far(api.ACK, 301, 106, 1000, "a"), 5, big(api.ACK|api.PSH, 106, 301, letters(15)[5:]),
		room(998, own(api.ACK, 151, 303, "")))
	s.is(api.Estab, api.OK)
}
