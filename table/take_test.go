package table_test

import (
	"testing"

	"sternpost/api"
	"sternpost/table"
)

// 19.3
func TestComesIn(t *testing.T) {
	x := made(t, set, here)
	x.listen(80, api.OK)
	iss := first(set.Key, api.Ends{IP: here, Port: 80, FarIP: there, FarPort: 5}, 2)
	x.take(there, syn(5, 80), 2, 1, to(there, answer(80, 5, iss))...)
	x.numbers(1)
	x.is(1, api.SynRcvd, api.OK)
	x.ends(1, 80, there, 5)
	x.due(10)
	// It waits: nobody may ask anything of it, and it may not be accepted, as it does not stand.
	x.unheld(1)
	x.acceptsNone(80)
	x.take(there, far(api.PSH, 5, 80, 501, iss+1, "hi"), 3, 1)
	x.is(1, api.Estab, api.OK)
	x.unheld(1)
	x.accept(80, 1)
	x.acceptsNone(80)
	x.read(1, 9, 3, "hi")
}

// 19.3: what else a SYN has, or has not, changes nothing: only ACK, RST and FIN do.
func TestWhatOpens(t *testing.T) {
	for flags := range 64 {
		x := made(t, set, here)
		x.listen(80, api.OK)
		s := syn(5, 80)
		s.Flags, s.Data = flags, "hi"
		if flags&api.ACK != 0 {
			s.Ack = 900
		}
		number, out := x.x.Take(there, s, 0)
		opens := flags&(api.SYN|api.ACK|api.RST|api.FIN) == api.SYN
		switch {
		case opens != (number == 1), !opens && number != 0:
			t.Errorf("flags %d: number %d", flags, number)
		case opens && (len(out) != 1 || out[0].S.Flags != api.SYN|api.ACK || out[0].S.Ack != 501):
			t.Errorf("flags %d: %+v", flags, out)
		case !opens && flags&api.RST != 0 && len(out) != 0:
			t.Errorf("flags %d: %+v", flags, out)
		case !opens && flags&api.RST == 0 && (len(out) != 1 || out[0].S.Flags&api.RST == 0 || out[0].To != there):
			t.Errorf("flags %d: %+v", flags, out)
		case !opens:
			x.empty()
		}
	}
}

// 19.3: what belongs to no connection, and opens none, is reset, whether a port listens or not.
func TestResets(t *testing.T) {
	x := made(t, set, here)
	x.listen(80, api.OK)
	x.take(there, syn(5, 81), 0, 0, to(there, shut(81, 5))...)
	x.take(word, syn(mostPort, 0), 0, 0, to(word, shut(0, mostPort))...)
	x.take(0, syn(0, 1), 0, 0, to(0, shut(1, 0))...)
	s := syn(5, 81)
	s.Flags, s.Data = api.SYN|api.FIN, "four"
	x.take(there, s, 0, 0, to(there, api.Segment{From: 81, To: 5, Ack: 506, Flags: api.RST | api.ACK})...)
	for _, port := range []int{80, 81} {
		x.take(there, far(0, 5, port, 501, 900, "hi"), 0, 0, to(there, unknown(port, 5, 900))...)
		x.take(there, far(api.SYN, 5, port, 501, 900, ""), 0, 0, to(there, unknown(port, 5, 900))...)
		x.take(there, far(api.FIN, 5, port, 501, word, ""), 0, 0, to(there, unknown(port, 5, word))...)
		x.take(there, api.Segment{From: 5, To: port, Seq: word, Data: "hi"}, 0, 0,
			to(there, api.Segment{From: port, To: 5, Ack: 1, Flags: api.RST | api.ACK})...)
		x.take(there, far(api.RST, 5, port, 501, 900, ""), 0, 0)
		x.take(there, api.Segment{From: 5, To: port, Seq: 7, Flags: api.RST}, 0, 0)
		x.take(there, api.Segment{From: 5, To: port, Seq: 7, Flags: api.RST | api.SYN}, 0, 0)
	}
	x.empty()
}

// 19.3: what is no address, and what may be no segment, is nothing.
func TestTakesNothing(t *testing.T) {
	x := made(t, set, here)
	x.listen(80, api.OK)
	for _, from := range noWords {
		x.take(from, syn(5, 80), 0, 0)
		x.take(from, syn(5, 81), 0, 0)
	}
	for _, change := range []func(*api.Segment){
		func(s *api.Segment) { s.From = -1 },
		func(s *api.Segment) { s.From = mostPort + 1 },
		func(s *api.Segment) { s.To += mostPort + 1 },
		func(s *api.Segment) { s.Seq = -1 },
		func(s *api.Segment) { s.Seq = word + 1 },
		func(s *api.Segment) { s.Ack = 1 },
		func(s *api.Segment) { s.Flags += 64 },
		func(s *api.Segment) { s.Window = mostPort + 1 },
		func(s *api.Segment) { s.Urgent = 1 },
		func(s *api.Segment) { s.Opts.Scale = 1 },
		func(s *api.Segment) { s.Data = string(make([]byte, api.MaxData+1)) },
	} {
		for _, port := range []int{80, 81} {
			s := syn(5, port)
			change(&s)
			x.take(there, s, 0, 0)
		}
	}
	// Nor does it reach a connection that would answer it.
	x.empty()
	x.stands(80, 5, 1)
	s := far(0, 5, 80, 1, 1, "old")
	s.Window = -1
	x.take(there, s, 0, 0)
	x.take(there-1<<32, far(0, 5, 80, 1, 1, "old"), 0, 0)
	// Nobody can have a connection to the port 0, as chapter 18 refuses such an end: what asks for one is nothing.
	x.take(there, syn(0, 80), 0, 0)
	x.numbers(1)
	x.comes(80, 6, 2)
}

// 19.3: of each port so many wait as the backlog says; those that are accepted, or gone, wait no more.
func TestBacklog(t *testing.T) {
	for _, backlog := range []int{1, 2, 3, 64} {
		s := set
		s.Backlog, s.Room = backlog, 256
		x := made(t, s, here)
		x.listen(80, api.OK)
		x.listen(81, api.OK)
		for i := range backlog {
			x.stands(80, 100+i, i+1)
		}
		x.take(there, syn(99, 80), 0, 0)
		x.take(yon, syn(100, 80), 0, 0)
		x.numbers(upTo(backlog)...)
		// Another port has its own, and what it opens itself does not wait.
		x.stands(81, 99, backlog+1)
		x.opened(80, backlog+2)
		x.accept(80, 1)
		x.stands(80, 99, backlog+3)
		x.take(there, syn(98, 80), 0, 0)
		// One that is reset while it waits is gone.
		x.take(there, api.Segment{From: 99, To: 80, Seq: 501, Flags: api.RST}, 0, backlog+3)
		x.without(backlog + 3)
		x.comes(80, 98, backlog+4)
		x.take(there, syn(99, 80), 0, 0)
		// One that is dropped does not wait again.
		x.drop(1, api.OK)
		x.take(there, syn(99, 80), 0, 0)
		x.is(1, api.Estab, api.OK)
	}
}

// upTo is the numbers from 1 to n.
func upTo(n int) (l []int) {
	for i := range n {
		l = append(l, i+1)
	}
	return l
}

// 19.2, 19.3, 19.6: there are never more than there is room for, whichever way they came.
func TestRoom(t *testing.T) {
	for _, room := range []int{1, 2, 5, 255, 256} {
		s := set
		s.Backlog, s.Room = 64, room
		x := made(t, s, here)
		x.listen(80, api.OK)
		x.listen(81, api.OK)
		for i := range room {
			if i%4 == 0 {
				x.comes(80, 5+i, i+1)
			} else {
				x.opened(80, i+1)
			}
		}
		x.take(there, syn(5, 81), 0, 0)
		x.connectFails(there, 80, 0, api.ErrFull)
		x.numbers(upTo(room)...)
		x.take(there, api.Segment{From: 5, To: 80, Seq: 501, Flags: api.RST}, 0, 1)
		x.comes(81, 5, room+1)
		x.take(there, syn(6, 81), 0, 0)
		x.connectFails(there, 80, 0, api.ErrFull)
	}
}

// 19.3: at a tick that may not be, one comes in at the nearest one that may.
func TestNearestTick(t *testing.T) {
	for _, now := range noTicks {
		x := made(t, set, here)
		x.listen(80, api.OK)
		at := api.MaxTick
		if now < 0 {
			at = 0
		}
		iss := first(set.Key, api.Ends{IP: here, Port: 80, FarIP: there, FarPort: 5}, at)
		x.take(there, syn(5, 80), now, 1, to(there, answer(80, 5, iss))...)
		x.due(at + 8)
		x.take(there, far(0, 5, 80, 501, iss+1, "hi"), now, 1)
		x.due(at + 1)
	}
}

// 19.3: the number of a connection is told even if that is gone by the segment; from then on nothing is known of it.
func TestGoneByTake(t *testing.T) {
	x := made(t, set, here)
	x.listen(80, api.OK)
	iss := x.stands(80, 5, 1)
	x.take(there, api.Segment{From: 5, To: 80, Seq: 501, Flags: api.RST}, 0, 1)
	x.empty()
	x.acceptsNone(80)
	x.take(there, far(0, 5, 80, 501, iss+1, ""), 0, 0, to(there, unknown(80, 5, iss+1))...)
	// The same ends come anew, with another number.
	x.stands(80, 5, 2)
	x.accept(80, 2)
	// One that is held stays, and nothing comes in between its ends.
	x.take(there, api.Segment{From: 5, To: 80, Seq: 501, Flags: api.RST}, 0, 2)
	x.is(2, api.Closed, api.ErrReset)
	x.take(there, syn(5, 80), 0, 2)
	x.take(there, far(0, 5, 80, 501, iss+1, ""), 0, 2)
	x.numbers(2)
	x.drop(2, api.OK)
	x.empty()
	x.comes(80, 5, 3)
}

// 19.6: a segment reaches just the connection between its ends.
func TestReachesOne(t *testing.T) {
	s := set
	s.Backlog = 9
	x := made(t, s, here)
	x.listen(80, api.OK)
	x.listen(81, api.OK)
	iss := x.stands(80, 5, 1)
	x.stands(80, 6, 2)
	x.stands(81, 5, 3)
	at := first(set.Key, api.Ends{IP: here, Port: 80, FarIP: yon, FarPort: 5}, 0)
	x.take(yon, syn(5, 80), 0, 4, to(yon, answer(80, 5, at))...)
	x.take(yon, far(0, 5, 80, 501, at+1, ""), 0, 4)
	for _, number := range []int{1, 2, 4} {
		x.accept(80, number)
	}
	x.accept(81, 3)
	x.take(there, far(0, 5, 80, 501, iss+1, "first"), 0, 1)
	x.take(yon, far(0, 5, 80, 501, at+1, "last"), 0, 4)
	x.read(2, 9, 0, "")
	x.read(3, 9, 0, "")
	x.read(4, 9, 0, "last")
	x.read(1, 9, 0, "first")
	// A segment of another address, or to another port, belongs to none.
	x.take(yon, far(0, 6, 80, 501, 900, "x"), 0, 0, to(yon, unknown(80, 6, 900))...)
	x.take(there, far(0, 6, 81, 501, 900, "x"), 0, 0, to(there, unknown(81, 6, 900))...)
	x.take(there, api.Segment{From: 6, To: 81, Seq: 501, Flags: api.RST}, 0, 0)
	x.take(there, api.Segment{From: 5, To: 80, Seq: 506, Flags: api.RST}, 0, 1)
	x.is(1, api.Closed, api.ErrReset)
	for _, number := range []int{2, 3, 4} {
		x.is(number, api.Estab, api.OK)
	}
}

// 19.3: the example of the document.
func TestExample(t *testing.T) {
	x := made(t, table.Setup{Conn: set.Conn, Key: 1, Backlog: 1, Room: 1}, 11)
	x.listen(80, api.OK)
	n, out := x.x.Take(10, syn(5, 80), 0)
	if n != 1 || len(out) != 1 || out[0].To != 10 || out[0].S.Flags != api.SYN|api.ACK {
		t.Errorf("%d, %+v", n, out)
	}
}
