package sock_test

import (
	"math"
	"testing"

	"sternpost/api"
)

// 20.3
func TestListen(t *testing.T) {
	s := made(t, set)
	for _, port := range noPorts {
		s.ask(api.Request{Tag: 1, Kind: api.SListen, Port: port}, did(failed(1, api.ErrRange)))
	}
	s.fds()
	s.listens(80, 0)
	s.ask(api.Request{Tag: 1, Kind: api.SListen, Port: 80}, did(failed(1, api.ErrUsed)))
	s.listens(1, 1)
	s.listens(mostPort, 2)
	s.fds(0, 1, 2)
	s.state(api.Listen, 0, 1, 2)
	s.ask(of(2, api.SClose, 1), did(api.Done{Tag: 2}))
	s.fds(0, 2)
	s.listens(81, 1)
	s.listens(1, 3)
	// What stands besides in a request is passed over.
	s.ask(api.Request{Tag: 3, Kind: api.SListen, FD: -5, IP: -1, Port: 90, N: -2, Data: "x"}, did(api.Done{Tag: 3, FD: 4}))
	s.waiting()
}

// full is a box whose numbers are all of sockets that listen, at the ports from 1 on.
func full(t *testing.T) side {
	t.Helper()
	s := made(t, set)
	for i := range most {
		s.listens(1+i, i)
	}
	return s
}

// 20.3: without a free number nothing is opened, whatever else is wrong.
func TestNoNumberIsFree(t *testing.T) {
	s := full(t)
	for _, port := range append([]int{80, 1}, noPorts...) {
		s.ask(api.Request{Tag: 1, Kind: api.SListen, Port: port}, did(failed(1, api.ErrFull)))
		s.ask(api.Request{Tag: 2, Kind: api.SConnect, IP: there, Port: port}, did(failed(2, api.ErrFull)))
	}
	s.ask(api.Request{Tag: 2, Kind: api.SConnect, IP: -1, Port: 80}, did(failed(2, api.ErrFull)))
	s.ask(of(3, api.SAccept, 5), did(failed(3, api.ErrFull)))
	s.comes(6, 5)
	s.ask(of(3, api.SAccept, 5), did(failed(3, api.ErrFull)))
	// The one that came in was not taken away by that.
	s.ask(of(4, api.SClose, 40), did(api.Done{Tag: 4}))
	s.ask(of(3, api.SAccept, 5), did(api.Done{Tag: 3, FD: 40}))
	s.ask(of(3, api.SAccept, most), did(failed(3, api.ErrNone)))
	s.ask(of(3, api.SAccept, 40), did(failed(3, api.ErrShape)))
	s.waiting()
}

// 20.3: an accept that waits is refused as soon as no number is free any more.
func TestAcceptWaitsUntilFull(t *testing.T) {
	s := made(t, set)
	for i := range most - 1 {
		s.listens(1+i, i)
	}
	s.ask(of(5, api.SAccept, 3), nil)
	s.ask(of(6, api.SAccept, 4), nil)
	s.ask(api.Request{Tag: 7, Kind: api.SListen, Port: 80}, did(api.Done{Tag: 7, FD: most - 1}, failed(5, api.ErrFull), failed(6, api.ErrFull)))
	s.waiting()
	s.ask(of(8, api.SClose, most-1), did(api.Done{Tag: 8}))
	s.ask(of(5, api.SAccept, 3), nil)
	s.ask(of(6, api.SAccept, 4), nil)
	s.comes(5, 7, api.Done{Tag: 6, FD: most - 1}, failed(5, api.ErrFull))
}

// 20.3
func TestAccept(t *testing.T) {
	s := made(t, set)
	s.listens(80, 0)
	s.listens(81, 1)
	for _, fd := range append(noFDs, 2, most-1) {
		s.ask(of(1, api.SAccept, fd), did(failed(1, api.ErrNone)))
	}
	s.ask(of(1, api.SAccept, 0), nil)
	s.ask(of(2, api.SAccept, 1), nil)
	s.ask(of(3, api.SAccept, 0), nil)
	s.fds(0, 1)
	s.comes(81, 5, api.Done{Tag: 2, FD: 2})
	s.comes(80, 6, api.Done{Tag: 1, FD: 3})
	s.waiting(3)
	s.state(api.Estab, 2, 3)
	// One that doesn't stand so far is accepted once it does.
	done, _ := s.x.Take(there, syn(7, 80), 0)
	s.is("Take", done, nil, nil, nil)
	s.ask(of(4, api.SAccept, 2), did(failed(4, api.ErrShape)))
	s.take(far(0, 7, 80, 501, first(80, 7)+1, ""), did(api.Done{Tag: 3, FD: 4}))
	s.fds(0, 1, 2, 3, 4)
	// Those that came ahead of the request are there at once, the first one first; the least number is free again.
	s.ask(of(5, api.SAbort, 2), did(api.Done{Tag: 5}), out(reset(81, 5, first(81, 5)+1))...)
	s.comes(80, 9)
	iss := s.comes(80, 8)
	s.take(far(0, 8, 80, 501, iss+1, "8"), nil)
	s.ask(of(6, api.SAccept, 0), did(api.Done{Tag: 6, FD: 2}))
	s.ask(of(7, api.SAccept, 0), did(api.Done{Tag: 7, FD: 5}))
	s.ask(read(8, 2, 9), nil)
	s.ask(read(9, 5, 9), did(api.Done{Tag: 9, N: 1, Data: "8"}))
	s.waiting(8)
}

// 20.3: an accept comes to nothing once its socket is closed: others of that port wait no more, either.
func TestAcceptOfWhatIsClosed(t *testing.T) {
	s := made(t, set)
	s.listens(80, 0)
	s.ask(of(1, api.SAccept, 0), nil)
	s.ask(of(2, api.SAccept, 0), nil)
	s.ask(of(3, api.SClose, 0), did(api.Done{Tag: 3}, failed(1, api.ErrNone), failed(2, api.ErrNone)))
	s.waiting()
	s.listens(80, 0)
	s.comes(80, 5)
	s.comes(80, 6)
	s.ask(of(4, api.SAccept, 0), did(api.Done{Tag: 4, FD: 1}))
	s.ask(of(5, api.SClose, 0), did(api.Done{Tag: 5}))
	s.listens(80, 0)
	s.ask(of(6, api.SAccept, 0), nil)
	s.state(api.Estab, 1)
	s.take(far(0, 6, 80, 501, first(80, 6)+1, ""), nil, out(api.Segment{From: 80, To: 6, Seq: first(80, 6) + 1, Flags: api.RST})...)
	s.take(far(0, 5, 80, 501, first(80, 5)+1, ""), nil)
	s.waiting(6)
}

// answered is what answers the SYN of a connection that is opened from here.
func answered(port int) api.Segment {
	return api.Segment{From: 80, To: port, Seq: 500, Ack: first(port, 80) + 1, Flags: api.SYN | api.ACK, Window: 100}
}

// 20.3
func TestConnect(t *testing.T) {
	s := made(t, set)
	s.opens(1, firstOwn)
	s.opens(2, firstOwn+1)
	s.waiting(1, 2)
	s.fds(0, 1)
	s.state(api.SynSent, 0, 1)
	s.take(answered(firstOwn+1), did(api.Done{Tag: 2, FD: 1}), out(own(0, firstOwn+1, 80, first(firstOwn+1, 80)+1, 501, ""))...)
	s.waiting(1)
	s.state(api.Estab, 1)
	s.state(api.SynSent, 0)
	// Both sides asked: it stands once the other one has acknowledged.
	cross := own(api.SYN, firstOwn, 80, first(firstOwn, 80), 501, "")
	cross.Opts = api.Opts{MSS: 20, SackOK: true}
	s.take(syn(80, firstOwn), nil, out(cross)...)
	s.state(api.SynRcvd, 0)
	s.waiting(1)
	s.take(far(0, 80, firstOwn, 501, first(firstOwn, 80)+1, ""), did(api.Done{Tag: 1}))
	s.state(api.Estab, 0)
	s.waiting()
	// What stands besides in a request is passed over.
	s.ask(api.Request{Tag: 3, Kind: api.SConnect, FD: 1, IP: there, Port: 80, N: -2, Data: "x"}, nil, out(question(firstOwn+2, 80))...)
	s.fds(0, 1, 2)
}

// 20.3: its number is the least free one, and is a socket's from then on.
func TestConnectHasANumber(t *testing.T) {
	s := made(t, set)
	s.listens(80, 0)
	s.listens(81, 1)
	s.listens(82, 2)
	s.ask(of(1, api.SClose, 1), did(api.Done{Tag: 1}))
	s.opens(2, firstOwn)
	s.fds(0, 1, 2)
	s.ask(write(3, 1, "hi"), did(api.Done{Tag: 3, N: 2}))
	s.ask(read(4, 1, 9), nil)
	s.ask(of(5, api.SAccept, 1), did(failed(5, api.ErrShape)))
	s.take(answered(firstOwn), did(api.Done{Tag: 2, FD: 1}),
		out(own(0, firstOwn, 80, first(firstOwn, 80)+1, 501, ""), own(api.PSH, firstOwn, 80, first(firstOwn, 80)+1, 501, "hi"))...)
	s.take(far(0, 80, firstOwn, 501, first(firstOwn, 80)+3, "yo"), did(api.Done{Tag: 4, N: 2, Data: "yo"}))
}

// 20.3: what the table refuses is refused, and leaves no socket.
func TestConnectRefuses(t *testing.T) {
	s := made(t, set)
	refused := func(r api.Request, e api.Code) {
		t.Helper()
		r.Kind = api.SConnect
		s.ask(r, did(failed(r.Tag, e)))
		s.waiting()
	}
	for _, ip := range noWords {
		refused(api.Request{Tag: 1, IP: ip, Port: 80}, api.ErrRange)
	}
	for _, port := range noPorts {
		refused(api.Request{Tag: 1, IP: there, Port: port}, api.ErrRange)
	}
	s.fds()
	for i := range set.Room {
		s.opens(i, firstOwn+i)
	}
	s.ask(api.Request{Tag: 9, Kind: api.SConnect, IP: there, Port: 80}, did(failed(9, api.ErrFull)))
	s.fds(0, 1, 2, 3, 4, 5)
	s.waiting(0, 1, 2, 3, 4, 5)
	// Once one of them is gone there is room again.
	s.ask(of(10, api.SClose, 3), did(api.Done{Tag: 10}, failed(3, api.ErrNone)))
	s.opens(11, firstOwn+3)
	s.fds(0, 1, 2, 3, 4, 5)
}

// 20.3: one that is closed ahead of standing has no socket any more.
func TestConnectThatFails(t *testing.T) {
	s := made(t, set)
	s.opens(1, firstOwn)
	s.ask(read(2, 0, 9), nil)
	s.ask(write(3, 0, string(make([]byte, 61))), nil)
	reset := api.Segment{From: 80, To: firstOwn, Ack: first(firstOwn, 80) + 1, Flags: api.RST | api.ACK}
	s.take(reset, did(failed(1, api.ErrReset), failed(2, api.ErrNone), failed(3, api.ErrNone)))
	s.fds()
	s.waiting()
	s.neverDue()
	// Its owner shuts it: that's no error of the connection.
	s.opens(4, firstOwn)
	s.ask(of(5, api.SShut, 0), did(api.Done{Tag: 5}, failed(4, api.ErrState)))
	s.fds()
	s.opens(6, firstOwn)
	s.ask(of(7, api.SClose, 0), did(api.Done{Tag: 7}, failed(6, api.ErrNone)))
	s.fds()
	s.opens(8, firstOwn)
	s.ask(of(9, api.SAbort, 0), did(api.Done{Tag: 9}, failed(8, api.ErrNone)))
	s.fds()
	s.neverDue()
	// Room and port are free, too.
	s.opens(10, firstOwn)
	s.state(api.SynSent, 0)
}

// 20.3: one whose number was freed doesn't come to what the next one of that number does.
func TestConnectOfAnother(t *testing.T) {
	s := made(t, set)
	s.opens(1, firstOwn)
	s.opens(2, firstOwn+1)
	s.ask(of(3, api.SClose, 0), did(api.Done{Tag: 3}, failed(1, api.ErrNone)))
	s.opens(4, firstOwn)
	s.fds(0, 1)
	s.take(answered(firstOwn), did(api.Done{Tag: 4}), out(own(0, firstOwn, 80, first(firstOwn, 80)+1, 501, ""))...)
	s.waiting(2)
}

// 20.3: it stands, whatever came behind its SYN, as long as it is not closed.
func TestConnectThatIsShut(t *testing.T) {
	s := made(t, set)
	s.opens(1, firstOwn)
	cross := own(api.SYN, firstOwn, 80, first(firstOwn, 80), 501, "")
	cross.Opts = api.Opts{MSS: 20, SackOK: true}
	s.take(syn(80, firstOwn), nil, out(cross)...)
	s.ask(of(2, api.SShut, 0), did(api.Done{Tag: 2}))
	s.waiting(1)
	iss := first(firstOwn, 80)
	s.take(far(0, 80, firstOwn, 501, iss+1, ""), did(api.Done{Tag: 1}), out(own(api.FIN, firstOwn, 80, iss+1, 501, ""))...)
	s.state(api.FinWait1, 0)
}

// 20.3
func TestRead(t *testing.T) {
	s, iss := server(t)
	for _, fd := range append(noFDs, 2, most-1) {
		s.ask(read(1, fd, 9), did(failed(1, api.ErrNone)))
		s.ask(read(1, fd, 0), did(failed(1, api.ErrNone)))
	}
	s.ask(read(1, 0, 9), did(failed(1, api.ErrShape)))
	s.ask(read(1, 0, 0), did(failed(1, api.ErrShape)))
	for _, n := range []int{0, -1, math.MinInt} {
		s.ask(read(1, 1, n), did(failed(1, api.ErrRange)))
	}
	s.ask(read(1, 1, 2), nil)
	s.ask(read(2, 1, math.MaxInt), nil)
	s.ask(read(3, 1, 4), nil)
	s.waiting(1, 2, 3)
	s.take(far(0, 5, 80, 501, iss+1, "abcdef"), did(api.Done{Tag: 1, N: 2, Data: "ab"}, api.Done{Tag: 2, N: 4, Data: "cdef"}))
	s.waiting(3)
	s.take(far(0, 5, 80, 507, iss+1, "ghijkl"), did(api.Done{Tag: 3, N: 4, Data: "ghij"}), out(api.Segment{From: 80, To: 5, Seq: iss + 1, Ack: 513, Flags: api.ACK, Window: 54})...)
	s.ask(read(4, 1, 1), did(api.Done{Tag: 4, N: 1, Data: "k"}))
	s.ask(read(5, 1, 1<<40), did(api.Done{Tag: 5, N: 1, Data: "l"}))
	s.ask(read(6, 1, 5), nil)
	s.ask(read(7, 1, 5), nil)
	s.take(far(api.FIN, 5, 80, 513, iss+1, "m"), did(api.Done{Tag: 6, N: 1, Data: "m"}, failed(7, api.ErrEnd)), out(api.Segment{From: 80, To: 5, Seq: iss + 1, Ack: 515, Flags: api.ACK, Window: 59})...)
	s.ask(read(8, 1, 5), did(failed(8, api.ErrEnd)))
	s.waiting()
	s.fds(0, 1)
}

// 20.3: a read may let the window go up, and that goes out.
func TestReadTells(t *testing.T) {
	s, iss := server(t)
	const full = "abcdefghij0123456789"
	window := func(n, ack int) api.Segment {
		x := own(0, 80, 5, iss+1, ack, "")
		x.Window = n
		return x
	}
	s.take(far(0, 5, 80, 501, iss+1, full), nil)
	s.take(far(0, 5, 80, 521, iss+1, full), nil, out(window(20, 541))...)
	s.take(far(0, 5, 80, 541, iss+1, full), nil)
	s.ask(read(1, 1, 19), did(api.Done{Tag: 1, N: 19, Data: full[:19]}))
	s.ask(read(2, 1, 19), did(api.Done{Tag: 2, N: 19, Data: full[19:] + full[:18]}), out(window(38, 561))...)
}

// 20.3: a connection that is closed tells its error to all that wait, and stays a socket.
func TestClosedByTheOther(t *testing.T) {
	s, iss := server(t)
	s.ask(read(1, 1, 9), nil)
	data := string(make([]byte, 70))
	done, _ := s.x.Ask(write(2, 1, data), 0)
	s.is("Ask", done, nil, nil, nil)
	s.ask(write(3, 1, data), nil)
	s.take(api.Segment{From: 5, To: 80, Seq: 501, Flags: api.RST},
		did(failed(1, api.ErrReset), api.Done{Tag: 2, Code: api.ErrReset, N: 60}, failed(3, api.ErrReset)))
	s.fds(0, 1)
	s.state(api.Closed, 1)
	s.ask(read(4, 1, 9), did(failed(4, api.ErrReset)))
	s.ask(write(4, 1, ""), did(failed(4, api.ErrReset)))
	s.ask(of(4, api.SShut, 1), did(failed(4, api.ErrReset)))
	s.ask(of(4, api.SAccept, 1), did(failed(4, api.ErrShape)))
	s.ask(of(4, api.SClose, 1), did(api.Done{Tag: 4}))
	s.fds(0)
	s.take(far(0, 5, 80, 501, iss+1, ""), nil, out(api.Segment{From: 80, To: 5, Seq: iss + 1, Flags: api.RST})...)
}
