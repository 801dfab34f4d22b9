package sock_test

import (
	"strings"
	"testing"

	"sternpost/api"
)

// piece is as much as a segment takes; three of these are as much as a queue has room for.
const piece = "abcdefghij0123456789"

// 20.3
func TestWrite(t *testing.T) {
	s, iss := server(t)
	for _, fd := range append(noFDs, 2, most-1) {
		s.ask(write(1, fd, "x"), did(failed(1, api.ErrNone)))
		s.ask(write(1, fd, ""), did(failed(1, api.ErrNone)))
	}
	s.ask(write(1, 0, "x"), did(failed(1, api.ErrShape)))
	s.ask(write(1, 0, ""), did(failed(1, api.ErrShape)))
	s.ask(write(1, 1, ""), did(api.Done{Tag: 1}))
	s.ask(write(2, 1, piece), did(api.Done{Tag: 2, N: 20}), out(own(api.PSH, 80, 5, iss+1, 501, piece))...)
	// Room for 40 of 45 bytes; what is written behind waits behind.
	s.ask(write(3, 1, piece+piece+"rest1"), nil, out(own(0, 80, 5, iss+21, 501, piece), own(api.PSH, 80, 5, iss+41, 501, piece))...)
	s.ask(write(4, 1, "rest2"), nil)
	s.waiting(3, 4)
	s.take(far(0, 5, 80, 501, iss+1, ""), nil)
	s.take(far(0, 5, 80, 501, iss+4, ""), nil)
	s.take(far(0, 5, 80, 501, iss+6, ""), did(api.Done{Tag: 3, N: 45}))
	s.take(far(0, 5, 80, 501, iss+61, ""), did(api.Done{Tag: 4, N: 5}), out(own(api.PSH, 80, 5, iss+61, 501, "rest1"))...)
	s.take(far(0, 5, 80, 501, iss+66, ""), nil, out(own(api.PSH, 80, 5, iss+66, 501, "rest2"))...)
	s.waiting()
}

// 20.3: one that waits at three places: what is told is all that was taken.
func TestWriteMuch(t *testing.T) {
	s, iss := server(t)
	text := strings.Repeat(piece, 10)
	done, o := s.x.Ask(write(1, 1, text), 0)
	heap, at := "", iss+1
	for step := 0; len(done) == 0; step++ {
		for _, x := range o {
			if x.S.Seq != at {
				t.Fatalf("%d goes out, want %d", x.S.Seq, at)
			}
			heap += x.S.Data
			at += len(x.S.Data)
		}
		if step > 10 || len(o) == 0 {
			t.Fatalf("step %d: %v", step, o)
		}
		s.waiting(1)
		done, o = s.x.Take(there, far(0, 5, 80, 501, at, ""), 0)
	}
	for _, x := range o {
		heap += x.S.Data
	}
	s.is("Take", done, nil, did(api.Done{Tag: 1, N: 200}), nil)
	if heap != text {
		t.Errorf("%q went out", heap)
	}
}

// 20.3: one that is refused in the midst of it tells how much was taken, if it is the table that refuses.
func TestWriteThatIsRefused(t *testing.T) {
	for _, c := range []struct {
		kind int
		want []api.Done
		fds  []int
		left []int
	}{
		{api.SShut, did(api.Done{Tag: 4}, api.Done{Tag: 1, Code: api.ErrState, N: 60}, failed(2, api.ErrState)), []int{0, 1}, []int{3}},
		{api.SClose, did(api.Done{Tag: 4}, failed(1, api.ErrNone), failed(2, api.ErrNone), failed(3, api.ErrNone)), []int{0}, nil},
		{api.SAbort, did(api.Done{Tag: 4}, failed(1, api.ErrNone), failed(2, api.ErrNone), failed(3, api.ErrNone)), []int{0}, nil},
	} {
		s, _ := server(t)
		done, _ := s.x.Ask(write(1, 1, piece+piece+piece+"x"), 0)
		s.is("Ask", done, nil, nil, nil)
		s.ask(write(2, 1, "y"), nil)
		s.ask(read(3, 1, 1), nil)
		done, _ = s.x.Ask(of(4, c.kind, 1), 0)
		s.is("Ask", done, nil, c.want, nil)
		s.fds(c.fds...)
		s.waiting(c.left...)
	}
}

// 20.3
func TestShut(t *testing.T) {
	s, iss := server(t)
	for _, fd := range append(noFDs, 2, most-1) {
		s.ask(of(1, api.SShut, fd), did(failed(1, api.ErrNone)))
	}
	s.ask(of(1, api.SShut, 0), did(failed(1, api.ErrShape)))
	s.ask(of(1, api.SShut, 1), did(api.Done{Tag: 1}), out(own(api.FIN, 80, 5, iss+1, 501, ""))...)
	s.ask(of(2, api.SShut, 1), did(failed(2, api.ErrState)))
	s.ask(write(3, 1, "x"), did(failed(3, api.ErrState)))
	s.state(api.FinWait1, 1)
	// It may read still.
	s.ask(read(4, 1, 9), nil)
	s.take(far(0, 5, 80, 501, iss+2, "hi"), did(api.Done{Tag: 4, N: 2, Data: "hi"}))
	s.state(api.FinWait2, 1)
	s.fds(0, 1)
}

// 20.3
func TestClose(t *testing.T) {
	s, iss := server(t)
	for _, fd := range append(noFDs, 2, most-1) {
		s.ask(of(1, api.SClose, fd), did(failed(1, api.ErrNone)))
	}
	s.ask(read(1, 1, 9), nil)
	s.ask(of(2, api.SClose, 1), did(api.Done{Tag: 2}, failed(1, api.ErrNone)), out(own(api.FIN, 80, 5, iss+1, 501, ""))...)
	s.fds(0)
	s.ask(of(3, api.SStat, 1), did(failed(3, api.ErrNone)))
	s.ask(of(3, api.SClose, 1), did(failed(3, api.ErrNone)))
	// The connection goes on by itself, until it is closed.
	s.due(4)
	s.take(far(0, 5, 80, 501, iss+2, ""), nil)
	s.take(far(api.FIN, 5, 80, 501, iss+2, ""), nil, out(own(0, 80, 5, iss+2, 502, ""))...)
	s.due(10)
	s.tick(10, nil)
	s.neverDue()
	// The one that listens, and what waits there.
	s.comes(80, 6)
	s.ask(of(4, api.SClose, 0), did(api.Done{Tag: 4}))
	s.fds()
	s.take(far(0, 6, 80, 501, 9, ""), nil, out(api.Segment{From: 80, To: 6, Seq: 9, Flags: api.RST})...)
	s.take(syn(7, 80), nil, out(api.Segment{From: 80, To: 7, Ack: 501, Flags: api.RST | api.ACK})...)
	s.listens(80, 0)
}

// 20.3: what the table refuses of its Close is passed over.
func TestCloseOfWhatIsShut(t *testing.T) {
	s, iss := server(t)
	s.ask(of(1, api.SShut, 1), did(api.Done{Tag: 1}), out(own(api.FIN, 80, 5, iss+1, 501, ""))...)
	s.ask(of(2, api.SClose, 1), did(api.Done{Tag: 2}))
	s.fds(0)
	iss = s.accepts(0, 80, 6, 1)
	s.take(api.Segment{From: 6, To: 80, Seq: 501, Flags: api.RST}, nil)
	s.state(api.Closed, 1)
	s.ask(of(3, api.SClose, 1), did(api.Done{Tag: 3}))
	s.fds(0)
	// It was held up to then, and is gone now.
	s.take(far(0, 6, 80, 501, iss+1, ""), nil, out(api.Segment{From: 80, To: 6, Seq: iss + 1, Flags: api.RST})...)
}

// 20.3
func TestAbort(t *testing.T) {
	s, iss := server(t)
	for _, fd := range append(noFDs, 2, most-1) {
		s.ask(of(1, api.SAbort, fd), did(failed(1, api.ErrNone)))
	}
	s.ask(of(1, api.SAbort, 0), did(failed(1, api.ErrShape)))
	s.ask(read(1, 1, 9), nil)
	s.ask(of(2, api.SAbort, 1), did(api.Done{Tag: 2}, failed(1, api.ErrNone)), out(reset(80, 5, iss+1))...)
	s.fds(0)
	s.ask(of(3, api.SAbort, 1), did(failed(3, api.ErrNone)))
	s.neverDue()
	s.take(far(0, 5, 80, 501, iss+1, ""), nil, out(api.Segment{From: 80, To: 5, Seq: iss + 1, Flags: api.RST})...)
	// Nothing goes out of one that is closed already.
	iss = s.accepts(0, 80, 6, 1)
	s.take(api.Segment{From: 6, To: 80, Seq: 501, Flags: api.RST}, nil)
	s.ask(of(4, api.SAbort, 1), did(api.Done{Tag: 4}))
	s.fds(0)
	s.take(far(0, 6, 80, 501, iss+1, ""), nil, out(api.Segment{From: 80, To: 6, Seq: iss + 1, Flags: api.RST})...)
}

// 20.3
func TestStat(t *testing.T) {
	s, iss := server(t)
	for _, fd := range append(noFDs, 2, most-1) {
		s.ask(of(1, api.SStat, fd), did(failed(1, api.ErrNone)))
	}
	s.state(api.Listen, 0)
	s.state(api.Estab, 1)
	s.take(far(api.FIN, 5, 80, 501, iss+1, ""), nil, out(own(0, 80, 5, iss+1, 502, ""))...)
	s.state(api.CloseWait, 1)
	s.ask(of(2, api.SShut, 1), did(api.Done{Tag: 2}), out(own(api.FIN, 80, 5, iss+1, 502, ""))...)
	s.state(api.LastAck, 1)
	s.take(far(0, 5, 80, 502, iss+2, ""), nil)
	s.state(api.Closed, 1)
	s.ask(api.Request{Tag: 3, Kind: api.SStat, FD: 1, IP: -1, Port: -1, N: -1, Data: "x"}, did(api.Done{Tag: 3}))
	s.fds(0, 1)
}

// The words: a request that is done may let an earlier one be done, so the first one is looked at again.
func TestLooksAgain(t *testing.T) {
	s, _ := server(t)
	done, _ := s.x.Ask(write(1, 1, piece+piece+piece+"x"), 0)
	s.is("Ask", done, nil, nil, nil)
	s.ask(of(2, api.SAccept, 0), nil)
	s.ask(read(3, 1, 9), nil)
	s.ask(of(4, api.SClose, 0), did(api.Done{Tag: 4}, failed(2, api.ErrNone)))
	s.waiting(1, 3)
	done, _ = s.x.Ask(of(5, api.SShut, 1), 0)
	s.is("Ask", done, nil, did(api.Done{Tag: 5}, api.Done{Tag: 1, Code: api.ErrState, N: 60}), nil)
	s.waiting(3)
}
