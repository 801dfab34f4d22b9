package sock_test

import (
	"testing"

	"sternpost/api"
	"sternpost/sock"
	"sternpost/table"
)

// 20.1
func TestNew(t *testing.T) {
	for _, ip := range []int{0, 1, here, word} {
		x, e := sock.New(set, ip)
		if e != api.OK {
			t.Fatalf("New(%d): %d", ip, e)
		}
		s := side{t, x}
		s.fds()
		s.waiting()
		s.neverDue()
		s.tick(5, nil)
	}
}

// 20.1
func TestNewRefuses(t *testing.T) {
	refused := func(s table.Setup, ip int) {
		t.Helper()
		if x, e := sock.New(s, ip); x != nil || e != api.ErrRange {
			t.Errorf("New(%+v, %d): %v, %d", s, ip, x, e)
		}
	}
	for _, n := range noWords {
		refused(set, n)
	}
	for _, change := range []func(*table.Setup){
		func(s *table.Setup) { s.Conn.MSS = 0 },
		func(s *table.Setup) { s.Conn.First = 0 },
		func(s *table.Setup) { s.Key = -1 },
		func(s *table.Setup) { s.Backlog = 65 },
		func(s *table.Setup) { s.Room = 257 },
	} {
		s := set
		change(&s)
		refused(s, here)
	}
}

// 20.1: the table's Take comes first, then the requests.
func TestTake(t *testing.T) {
	s := made(t, set)
	s.listens(80, 0)
	s.ask(of(1, api.SAccept, 0), nil)
	s.waiting(1)
	iss := s.comes(80, 5, api.Done{Tag: 1, FD: 1})
	s.waiting()
	s.fds(0, 1)
	s.ask(read(2, 1, 9), nil)
	s.take(far(0, 5, 80, 501, iss+1, "hello"), did(api.Done{Tag: 2, N: 5, Data: "hello"}))
	s.due(1)
	s.tick(1, nil, out(own(0, 80, 5, iss+1, 506, ""))...)
	// What is for no connection is answered by the table.
	s.take(far(0, 6, 80, 501, 77, ""), nil, out(api.Segment{From: 80, To: 6, Seq: 77, Flags: api.RST})...)
	s.neverDue()
}

// 20.1: what may not be taken leaves all as it is.
func TestTakeOfNothing(t *testing.T) {
	s, iss := server(t)
	s.ask(read(2, 1, 9), nil)
	x := far(0, 5, 80, 501, iss+1, "hello")
	for _, from := range noWords {
		done, o := s.x.Take(from, x, 0)
		s.is("Take", done, o, nil, nil)
	}
	x.Flags = 64
	s.take(x, nil)
	s.waiting(2)
}

// 20.1: what waits is looked at behind each tick, too.
func TestTick(t *testing.T) {
	s := made(t, set)
	s.opens(1, firstOwn)
	s.tick(7, nil)
	s.tick(8, nil, out(question(firstOwn, 80))...)
	s.tick(8+16, nil, out(question(firstOwn, 80))...)
	s.waiting(1)
	s.fds(0)
	s.due(24 + 32)
	s.tick(24+32, did(failed(1, api.ErrTime)), out(reset(firstOwn, 80, first(firstOwn, 80)+1))...)
	s.waiting()
	s.fds()
	s.neverDue()
}

// 20.1: tags come in the order in which they were asked, and may be any.
func TestWaiting(t *testing.T) {
	s, _ := server(t)
	for _, tag := range []int{5, -1, 5, 0, 1 << 40} {
		s.ask(read(tag, 1, 9), nil)
	}
	s.waiting(5, -1, 5, 0, 1<<40)
	s.fds(0, 1)
}

// 20.2
func TestNoKind(t *testing.T) {
	s, _ := server(t)
	s.ask(read(1, 1, 9), nil)
	for _, kind := range noKinds {
		s.ask(api.Request{Tag: 7, Kind: kind, FD: 1, IP: there, Port: 80, N: 5, Data: "x"}, did(failed(7, api.ErrForm)))
		s.ask(of(-7, kind, -1), did(failed(-7, api.ErrForm)))
	}
	s.waiting(1)
	s.fds(0, 1)
}

// 20.2: at most 64 wait; then whatever is asked is too much, as long as none of them is done.
func TestTooManyWait(t *testing.T) {
	s, iss := server(t)
	var want []int
	for i := range most {
		s.ask(read(i, 1, 2), nil)
		want = append(want, i)
	}
	for kind := api.SListen; kind <= api.SStat; kind++ {
		s.ask(api.Request{Tag: 100, Kind: kind, FD: 1, IP: there, Port: 81, N: 1, Data: "x"}, did(failed(100, api.ErrLong)))
	}
	s.ask(of(100, api.SStat, 9), did(failed(100, api.ErrLong)))
	s.ask(of(100, 10, 9), did(failed(100, api.ErrForm)))
	s.waiting(want...)
	s.fds(0, 1)
	s.take(far(0, 5, 80, 501, iss+1, "abc"), did(api.Done{N: 2, Data: "ab"}, api.Done{Tag: 1, N: 1, Data: "c"}))
	s.waiting(want[2:]...)
	s.state(api.Estab, 1)
	s.ask(read(64, 1, 2), nil)
	s.ask(read(65, 1, 2), nil)
	s.ask(read(66, 1, 2), did(failed(66, api.ErrLong)))
	s.waiting(append(want[2:], 64, 65)...)
}

// 20.2: what is refused is a Done at once, whatever waits.
func TestRefusedAtOnce(t *testing.T) {
	s, _ := server(t)
	s.ask(read(1, 1, 9), nil)
	s.ask(read(2, 1, 0), did(failed(2, api.ErrRange)))
	s.ask(read(3, 0, 5), did(failed(3, api.ErrShape)))
	s.ask(read(4, 2, 5), did(failed(4, api.ErrNone)))
	s.waiting(1)
}

// 20.2: the tick of a call is that of all that is called by it.
func TestNow(t *testing.T) {
	s, iss := server(t)
	s.askAt(7, write(1, 1, "hi"), did(api.Done{Tag: 1, N: 2}), out(own(api.PSH, 80, 5, iss+1, 501, "hi"))...)
	s.due(7 + 4)
	syn := question(firstOwn, 9)
	syn.Seq = (syn.Seq + 64*2) & word
	s.askAt(2, api.Request{Tag: 2, Kind: api.SConnect, IP: there, Port: 9}, nil, out(syn)...)
	s.due(2 + 8)
	s.askAt(3, of(3, api.SClose, 2), did(api.Done{Tag: 3}, failed(2, api.ErrNone)))
	s.askAt(9, of(4, api.SClose, 1), did(api.Done{Tag: 4}), out(own(api.FIN, 80, 5, iss+3, 501, ""))...)
	s.due(7 + 4)
	for _, now := range noTicks {
		s.askAt(now, api.Request{Tag: 5, Kind: api.SConnect, IP: there, Port: 80}, did(failed(5, api.ErrRange)))
	}
}

// 20.2: a read that goes on waiting is asked of its connection at each look, so that has heard of the tick; what is refused ahead of all is no look.
func TestLooksHaveTicks(t *testing.T) {
	for _, c := range []struct {
		now, due int
		r        api.Request
		want     []api.Done
	}{
		{10, 11, of(2, api.SStat, 0), did(api.Done{Tag: 2, N: api.Listen})},
		{10, 6, of(2, 0, 0), did(failed(2, api.ErrForm))},
		{api.MaxTick + 5, api.MaxTick + 1, of(2, api.SClose, 3), did(failed(2, api.ErrNone))},
		{-5, 6, of(2, api.SClose, 3), did(failed(2, api.ErrNone))},
	} {
		s, iss := server(t)
		s.ask(read(1, 1, 9), nil)
		s.askAt(c.now, c.r, c.want)
		done, o := s.x.Take(there, far(0, 5, 80, 501, iss+1, "abc"), 5)
		s.is("Take", done, o, did(api.Done{Tag: 1, N: 3, Data: "abc"}), nil)
		s.due(c.due)
	}
	s, iss := server(t)
	for i := range most {
		s.ask(read(i, 1, 1), nil)
	}
	s.askAt(10, of(2, api.SStat, 0), did(failed(2, api.ErrLong)))
	done, o := s.x.Take(there, far(0, 5, 80, 501, iss+1, "a"), 5)
	s.is("Take", done, o, did(api.Done{N: 1, Data: "a"}), nil)
	s.due(6)
}

// 20.1, 20.2: what goes out goes out in the order in which it comes: what the table sends by a segment, then what requests send.
func TestOrderOfOut(t *testing.T) {
	s, iss := server(t)
	const full = "abcdefghij0123456789"
	s.ask(write(1, 1, full+full+full+"rest"), nil,
		out(own(0, 80, 5, iss+1, 501, full), own(0, 80, 5, iss+21, 501, full), own(api.PSH, 80, 5, iss+41, 501, full))...)
	s.take(far(0, 5, 80, 501, iss+61, ""), did(api.Done{Tag: 1, N: 64}), out(own(api.PSH, 80, 5, iss+61, 501, "rest"))...)
	s.take(far(0, 5, 80, 501, iss+65, ""), nil)
	s.ask(write(2, 1, full+full+full+"more"), nil,
		out(own(0, 80, 5, iss+65, 501, full), own(0, 80, 5, iss+85, 501, full), own(api.PSH, 80, 5, iss+105, 501, full))...)
	s.take(far(api.FIN, 5, 80, 501, iss+125, ""), did(api.Done{Tag: 2, N: 64}),
		out(own(0, 80, 5, iss+125, 502, ""), own(api.PSH, 80, 5, iss+125, 502, "more"))...)
}

// R4: what is handed out, and handed in, is the box's no more, and not the box's.
func TestMemory(t *testing.T) {
	s, _ := server(t)
	s.ask(read(1, 1, 9), nil)
	s.ask(read(2, 1, 9), nil)
	for _, l := range [][]int{s.x.FDs(), s.x.Waiting()} {
		for i := range l {
			l[i] = 77
		}
		if len(append(l, 7, 7, 7)) != 5 {
			t.Error("append")
		}
	}
	s.fds(0, 1)
	s.waiting(1, 2)
	done, _ := s.x.Ask(of(3, api.SClose, 1), 0)
	for i := range done {
		done[i] = api.Done{}
	}
	s.fds(0)
	s.waiting()
}
