package host_test

import (
	"strconv"
	"strings"
	"testing"

	"sternpost/api"
	"sternpost/app"
	"sternpost/host"
	"sternpost/seg"
)

// 22.2, 22.4: a session answers whole lines as they come; once it is over its socket is closed.
func TestServer(t *testing.T) {
	w := newWire(t, set, clientAt(there))
	w.connects(1, 0)
	w.sessions(1)
	w.writes(1, 0, "PUT a 5\nADD a 2\nLI")
	w.reads(1, 0, "OK\nVALUE 7\n")
	tag := w.asks(1, api.Request{Kind: api.SRead, FD: 0, N: 99})
	w.writes(1, 0, "S")
	w.writes(1, 0, "T")
	w.waits(1, tag)
	w.writes(1, 0, "\nQ")
	w.gets(1, tag, api.Done{N: 7, Data: "LIST a\n"})
	w.sessions(1)
	w.writes(1, 0, "UIT\nGET a\n")
	w.reads(1, 0, "BYE\n")
	w.ends(1, 0)
	w.sessions(0)
	w.hosts[0].waiting()
	w.closes(1, 0)
	w.goes(20)
	w.connects(1, 0)
	w.sessions(1)
	w.writes(1, 0, "COUNT\n")
	w.reads(1, 0, "COUNT 0\n")
}

// The end of the other side, however it comes, ends a session; what it had asked is answered ahead of that.
func TestServerEnds(t *testing.T) {
	w := newWire(t, set, clientAt(there), clientAt(there+7))
	w.connects(1, 0)
	w.connects(1, 1)
	w.connects(1, 2)
	w.connects(2, 0)
	w.sessions(4)
	w.writes(1, 0, "PUT a 1\nGE")
	w.does(1, api.Request{Kind: api.SShut, FD: 0}, api.Done{})
	w.sessions(3)
	w.reads(1, 0, "OK\n")
	w.ends(1, 0)
	w.does(1, api.Request{Kind: api.SAbort, FD: 1}, api.Done{})
	w.sessions(2)
	w.closes(1, 2)
	w.sessions(1)
	// Of one that is dead nothing is heard while nothing is asked.
	w.dead[2] = true
	w.goes(1000)
	w.sessions(1)
	w.hosts[0].waiting()
}

// A session whose answer nobody acknowledges is over once its connection is given up.
func TestServerTimesOut(t *testing.T) {
	w := newWire(t, set, clientAt(there))
	w.connects(1, 0)
	x := w.hosts[1].x
	_, out := x.Ask(api.Request{Tag: 99, Kind: api.SWrite, Data: "COUNT\n"}, w.now)
	w.dead[1] = true
	for _, s := range out {
		w.hosts[0].x.Frame(s, w.now)
	}
	w.sessions(1)
	w.goes(200)
	w.sessions(0)
}

// A session is that of one connection, and names are its own.
func TestServerSessionsApart(t *testing.T) {
	w := newWire(t, set, clientAt(there), clientAt(there+7))
	for fd := range 2 {
		for k := 1; k <= 2; k++ {
			w.connects(k, fd)
			w.writes(k, fd, "PUT who "+strconv.Itoa(10*k+fd)+"\n")
		}
	}
	w.sessions(4)
	for fd := range 2 {
		for k := 1; k <= 2; k++ {
			w.writes(k, fd, "GET who\nCOUNT\n")
			w.reads(k, fd, "OK\nVALUE "+strconv.Itoa(10*k+fd)+"\nCOUNT 1\n")
		}
	}
	w.writes(1, 1, "QUIT\n")
	w.sessions(3)
	w.writes(1, 0, "COUNT\n")
	w.reads(1, 0, "COUNT 1\n")
}

// stands is a host over whose first connection, from the port 5 of the one there, nothing went so far: the number of that connection's first byte on the host's side.
func stands(t *testing.T, s host.Setup) (x side, at int) {
	t.Helper()
	x = knowing(t, s)
	at = first(port, there, 5, 0)
	x.frame(segment(api.SYN, 99, 0, ""), 0, nil, goes(0, here, api.ProtoTcp,
		segOf(here, there, api.Segment{From: port, To: 5, Seq: at, Ack: 100, Flags: api.SYN | api.ACK, Window: s.Table.Conn.Room, Opts: api.Opts{MSS: s.Table.Conn.MSS, SackOK: true}})))
	at = (at + 1) % (1 << 32)
	x.frame(segment(api.ACK, 100, at, ""), 0, nil)
	x.sessions(1)
	return x, at
}

// segment is a frame with a segment from the port 5 there to the server; SYNs tell an MSS that is greater than the server's.
func segment(flags, number, ack int, data string) string {
	s := api.Segment{From: 5, To: port, Seq: number, Ack: ack, Flags: flags, Window: 4000, Data: data}
	if seg.Has(s, api.SYN) {
		s.Opts.MSS = 1460
	}
	return comes(api.Packet{From: there, To: here, TTL: 9, Proto: api.ProtoTcp, Data: segOf(there, here, s)})
}

// answers is the ident-th frame of the host, by which the server says something.
func answers(flags, ident, number, ack, window int, data string) string {
	return goes(ident, here, api.ProtoTcp, segOf(here, there, api.Segment{From: port, To: 5, Seq: number, Ack: ack, Flags: api.ACK | flags, Window: window, Data: data}))
}

// A session reads at most 512 bytes at a time, and writes what it answers to these at once; it reads on once that is written.
func TestServerReads(t *testing.T) {
	x, at := stands(t, with(func(s *host.Setup) { s.Table.Conn.Delay = 5 }))
	lines := strings.Repeat("COUNT\n", 100)
	told := strings.Repeat("COUNT 0\n", 100)
	// Of 512 bytes 85 lines are whole. What is answered to the others must wait until something is acknowledged, as it is less than a segment.
	x.frame(segment(api.ACK, 100, at, lines), 1, nil, answers(api.PSH, 1, at, 700, 2000-88, told[:85*8]))
	x.frame(segment(api.ACK, 700, at+85*8, ""), 2, nil, answers(api.PSH, 2, at+85*8, 700, 2000, told[85*8:]))
	x.sessions(1)
	// What is not whole is not answered: then nothing is written, and it is read on at once.
	x.frame(segment(api.ACK, 700, at+800, "COUN"), 3, nil)
	x.frame(segment(api.ACK, 704, at+800, "T"), 3, nil, answers(0, 3, at+800, 705, 2000-1, ""))
	x.frame(segment(api.ACK, 705, at+800, "\n"), 3, nil, answers(api.PSH, 4, at+800, 706, 2000, "COUNT 0\n"))
}

// A session reads no more until all that it answers is taken; meanwhile only so much comes in as there is room for.
func TestServerWaitsForRoom(t *testing.T) {
	x, at := stands(t, with(func(s *host.Setup) { s.Table.Conn.Room = 60 }))
	told := strings.Repeat("COUNT 0\n", 10)
	x.frame(segment(api.ACK, 100, at, strings.Repeat("COUNT\n", 10)), 1, nil,
		answers(0, 1, at, 160, 0, ""), answers(0, 2, at, 160, 60, ""), answers(api.PSH, 3, at, 160, 60, told[:60]))
	x.frame(segment(api.ACK, 160, at, "COUNT\n"), 1, nil, answers(0, 4, at+60, 166, 54, ""))
	x.frame(segment(api.ACK, 166, at, "COU"), 1, nil, answers(0, 5, at+60, 169, 51, ""))
	// All is taken now, so that the rest is read, and answered, once all that was said is acknowledged.
	x.frame(segment(api.ACK, 169, at+60, ""), 2, nil, answers(api.PSH, 6, at+60, 169, 51, told[60:]))
	x.frame(segment(api.ACK, 169, at+80, ""), 3, nil, answers(api.PSH, 7, at+80, 169, 60, told[:8]))
}

// readsAll reads at a client's socket, now and then, until the server is done.
func (w *wire) readsAll(k, fd int) (heap string) {
	w.t.Helper()
	for {
		tag := w.asks(k, api.Request{Kind: api.SRead, FD: fd, N: 50})
		w.goes(60)
		d := w.came[k][tag]
		if d.N == 0 {
			w.gets(k, tag, api.Done{Code: api.ErrEnd})
			return heap
		}
		heap += d.Data
	}
}

// Behind BYE all that was answered is written, however long that takes; then the socket is closed.
func TestServerQuits(t *testing.T) {
	w := newWire(t, with(func(s *host.Setup) { s.Table.Conn.Room = 100 }), clientAt(there))
	w.connects(1, 0)
	w.late = true
	lines := "PUT a " + strings.Repeat("x", 200) + "\n" + strings.Repeat("GET a\n", 20) + "QUIT\n"
	w.asks(1, api.Request{Kind: api.SWrite, FD: 0, Data: lines})
	w.goes(50)
	w.sessions(1)
	want, _ := app.Answer(lines)
	if heap := w.readsAll(1, 0); heap != want {
		t.Errorf("%q, want %q", heap, want)
	}
	w.sessions(0)
}

// crowded is a setup in which only sockets are few.
func crowded(s host.Setup) host.Setup {
	s.Table.Room, s.Table.Backlog = 256, 64
	return s
}

// As many sessions as there are sockets but the port's; who comes then waits until one is free.
func TestServerFull(t *testing.T) {
	w := newWire(t, crowded(set), crowded(clientAt(there)), crowded(clientAt(there+7)))
	for fd := range 63 {
		w.connects(1, fd)
		w.sessions(fd + 1)
	}
	for fd := range 3 {
		w.connects(2, fd)
		w.writes(2, fd, "COUNT\n")
		w.sessions(63)
	}
	w.goes(10)
	w.sessions(63)
	w.writes(1, 60, "COUNT\n")
	w.reads(1, 60, "COUNT 0\n")
	// Who was first is first; and one who wrote already is answered at once.
	w.writes(1, 5, "QUIT\n")
	w.reads(1, 5, "BYE\n")
	w.sessions(63)
	w.reads(2, 0, "COUNT 0\n")
	tag := w.asks(2, api.Request{Kind: api.SRead, FD: 1, N: 9})
	w.waits(2, tag)
	w.closes(1, 7)
	w.gets(2, tag, api.Done{N: 8, Data: "COUNT 0\n"})
	w.does(1, api.Request{Kind: api.SAbort, FD: 9}, api.Done{})
	w.reads(2, 2, "COUNT 0\n")
	w.sessions(63)
	w.closes(1, 11)
	w.sessions(62)
	w.connects(1, 7)
	w.sessions(63)
}

// One that waited until a socket was free may end at once, so that the next one comes, and so on.
func TestServerFullLetsManyIn(t *testing.T) {
	w := newWire(t, crowded(set), crowded(clientAt(there)), crowded(clientAt(there+7)))
	for fd := range 63 {
		w.connects(1, fd)
	}
	for fd := range 20 {
		w.connects(2, fd)
		w.writes(2, fd, "PUT a 1\nCOUNT\nQUIT\n")
	}
	w.sessions(63)
	w.closes(1, 30)
	w.sessions(62)
	for fd := range 20 {
		w.reads(2, fd, "OK\nCOUNT 1\nBYE\n")
		w.ends(2, fd)
	}
}

// Sockets of others may take the last number while the server waits for a connection: it goes on once there is one.
func TestServerFullByOthers(t *testing.T) {
	w := newWire(t, crowded(set), crowded(clientAt(there)))
	for i := range 63 {
		w.does(0, api.Request{Kind: api.SListen, Port: 100 + i}, api.Done{FD: 1 + i})
	}
	w.connects(1, 0)
	w.writes(1, 0, "COUNT\n")
	w.goes(3)
	w.sessions(0)
	w.closes(0, 20)
	w.sessions(1)
	w.reads(1, 0, "COUNT 0\n")
	w.connects(1, 1)
	w.sessions(1)
	w.writes(1, 0, "QUIT\n")
	w.reads(1, 0, "BYE\n")
	w.sessions(1)
	w.writes(1, 1, "COUNT\n")
	w.reads(1, 1, "COUNT 0\n")
}

// Others may ask so much that there is no room for what the server asks: its sessions go on, and it lets nobody in till then.
func TestServerAmongRequests(t *testing.T) {
	w := newWire(t, crowded(set), crowded(clientAt(there)))
	w.connects(1, 0)
	w.sessions(1)
	w.does(0, api.Request{Kind: api.SListen, Port: 81}, api.Done{FD: 2})
	accept := api.Request{Kind: api.SAccept, FD: 2}
	var tags []int
	for range 62 {
		tags = append(tags, w.asks(0, accept))
	}
	w.hosts[0].waiting(tags...)
	w.does(0, accept, api.Done{Code: api.ErrLong})
	w.connects(1, 1)
	w.sessions(2)
	w.connects(1, 2)
	w.sessions(2)
	for fd := range 2 {
		w.writes(1, fd, "PUT a 1\nCOUNT\n")
		w.reads(1, fd, "OK\nCOUNT 1\n")
	}
	w.goes(5)
	w.sessions(2)
	// There is room again once one of them is done.
	w.does(1, api.Request{Kind: api.SConnect, IP: here, Port: 81}, api.Done{FD: 3})
	w.gets(0, tags[0], api.Done{FD: 4})
	w.sessions(3)
	w.writes(1, 2, "COUNT\n")
	w.reads(1, 2, "COUNT 0\n")
	w.hosts[0].waiting(tags[1:]...)
}

// Whoever asks things of the host may close the server's port: nobody is let in any more, also where another one listens there then.
func TestServerPortIsClosed(t *testing.T) {
	w := newWire(t, set, clientAt(there))
	w.connects(1, 0)
	w.closes(0, 0)
	w.does(1, api.Request{Kind: api.SConnect, IP: here, Port: port}, api.Done{Code: api.ErrReset})
	w.sessions(1)
	w.writes(1, 0, "COUNT\n")
	w.reads(1, 0, "COUNT 0\n")
	w.does(0, api.Request{Kind: api.SListen, Port: port}, api.Done{FD: 0})
	w.connects(1, 1)
	w.goes(3)
	w.sessions(1)
	w.does(0, api.Request{Kind: api.SAccept, FD: 0}, api.Done{FD: 2})
	w.writes(1, 1, "COUNT\n")
	w.reads(0, 2, "COUNT\n")
	w.sessions(1)
}

// So it is where the server could not ask for a connection when its port was closed.
func TestServerPortIsClosedFull(t *testing.T) {
	w := newWire(t, crowded(set), crowded(clientAt(there)))
	for i := range 63 {
		w.does(0, api.Request{Kind: api.SListen, Port: 100 + i}, api.Done{FD: 1 + i})
	}
	w.closes(0, 0)
	w.does(0, api.Request{Kind: api.SListen, Port: 90}, api.Done{FD: 0})
	w.closes(0, 1)
	w.does(1, api.Request{Kind: api.SConnect, IP: here, Port: 90}, api.Done{FD: 0})
	w.goes(3)
	w.sessions(0)
	w.does(0, api.Request{Kind: api.SAccept, FD: 0}, api.Done{FD: 1})
}

// So may the socket of a session be closed, aborted, or shut.
func TestServerSocketIsClosed(t *testing.T) {
	w := newWire(t, set, clientAt(there))
	for fd := range 3 {
		w.connects(1, fd)
	}
	w.sessions(3)
	w.closes(0, 1)
	w.sessions(2)
	w.ends(1, 0)
	w.does(0, api.Request{Kind: api.SAbort, FD: 2}, api.Done{})
	w.sessions(1)
	w.does(1, api.Request{Kind: api.SRead, FD: 1, N: 1}, api.Done{Code: api.ErrReset})
	w.does(0, api.Request{Kind: api.SShut, FD: 3}, api.Done{})
	w.sessions(1)
	w.writes(1, 2, "COUNT\n")
	w.ends(1, 2)
	w.sessions(0)
	w.connects(1, 3)
	w.does(0, api.Request{Kind: api.SClose, FD: 2}, api.Done{Code: api.ErrNone})
	w.sessions(1)
	w.writes(1, 3, "COUNT\n")
	w.reads(1, 3, "COUNT 0\n")
}

// What is done of the server's requests is not told beside what others asked for, nor are its tags.
func TestServerTellsNothing(t *testing.T) {
	w := newWire(t, set, clientAt(there))
	tag := w.asks(0, api.Request{Kind: api.SAccept, FD: 0})
	w.hosts[0].waiting(tag)
	w.connects(1, 0)
	w.sessions(1)
	w.waits(0, tag)
	w.connects(1, 1)
	w.gets(0, tag, api.Done{FD: 2})
	w.sessions(1)
	w.hosts[0].waiting()
	read := w.asks(0, api.Request{Kind: api.SRead, FD: 1, N: 99})
	w.writes(1, 0, "COUNT\n")
	w.waits(0, read)
	w.closes(1, 0)
	w.gets(0, read, api.Done{Code: api.ErrEnd})
	w.sessions(0)
}

// What others asked for is told in the order in which it is done, also where the server's own requests let it be done.
func TestServerOrder(t *testing.T) {
	x, at := stands(t, with(func(s *host.Setup) { s.Table.Conn.Room = 60 }))
	data := strings.Repeat("x", 60)
	x.ask(api.Request{Tag: 1, Kind: api.SRead, FD: 1, N: 9}, 1, nil)
	x.ask(api.Request{Tag: 2, Kind: api.SWrite, FD: 1, Data: data + "y"}, 1, nil, answers(api.PSH, 1, at, 100, 60, data))
	x.waiting(1, 2)
	x.frame(segment(api.ACK|api.FIN, 100, at, ""), 2,
		did(api.Done{Tag: 1, Code: api.ErrEnd}, api.Done{Tag: 2, Code: api.ErrNone}),
		answers(0, 2, at+60, 101, 60, ""), answers(api.FIN, 3, at+60, 101, 60, ""))
	x.sessions(0)
}
