package table_test

import (
	"testing"

	"sternpost/api"
)

// 19.2
func TestConnect(t *testing.T) {
	x := made(t, set, here)
	iss := first(set.Key, api.Ends{IP: here, Port: firstOwn, FarIP: there, FarPort: 80}, 3)
	x.connect(there, 80, 3, 1, to(there, question(firstOwn, 80, iss))...)
	x.numbers(1)
	x.is(1, api.SynSent, api.OK)
	x.ends(1, firstOwn, there, 80)
	x.due(11)
	// It is held from the beginning on, and so waits for nobody.
	x.write(1, "hi", 3, 2)
	x.acceptsNone(firstOwn, 80)
	x.take(there, api.Segment{From: 80, To: firstOwn, Seq: 500, Ack: iss + 1, Flags: api.SYN | api.ACK, Window: 100}, 4, 1,
		to(there, own(0, firstOwn, 80, iss+1, 501, ""), own(api.PSH, firstOwn, 80, iss+1, 501, "hi"))...)
	x.is(1, api.Estab, api.OK)
	x.acceptsNone(firstOwn, 80)
}

// asksFrom looks from which port a connection opens, at the tick 0.
func (s side) asksFrom(farIP, farPort, number, port int) {
	s.t.Helper()
	iss := first(set.Key, api.Ends{IP: here, Port: port, FarIP: farIP, FarPort: farPort}, 0)
	s.connect(farIP, farPort, 0, number, to(farIP, question(port, farPort, iss))...)
	s.ends(number, port, farIP, farPort)
}

// 19.2: the port is the first one that does not listen, and from which nothing goes to just there.
func TestOwnPort(t *testing.T) {
	s := set
	s.Room, s.Backlog = 20, 9
	x := made(t, s, here)
	x.listen(firstOwn-1, api.OK)
	x.listen(firstOwn+2, api.OK)
	x.asksFrom(there, 80, 1, firstOwn)
	x.asksFrom(there, 80, 2, firstOwn+1)
	x.asksFrom(there, 80, 3, firstOwn+3)
	x.asksFrom(there, 81, 4, firstOwn)
	x.asksFrom(yon, 80, 5, firstOwn)
	x.asksFrom(yon, 80, 6, firstOwn+1)
	// One that came in there, and goes on after it is silent, is one to just there, too.
	x.stands(firstOwn+2, 80, 7)
	x.accept(firstOwn+2, 7)
	x.silence(firstOwn+2, api.OK)
	x.asksFrom(there, 80, 8, firstOwn+4)
	x.asksFrom(there, 81, 9, firstOwn+1)
	x.asksFrom(there, 81, 10, firstOwn+2)
	// A port is free again once its connection is gone, not as soon as that is closed.
	x.close(1, 0)
	x.asksFrom(there, 80, 11, firstOwn+5)
	x.drop(1, api.OK)
	x.asksFrom(there, 80, 12, firstOwn)
	// Nobody holds it, but it goes on.
	x.drop(2, api.OK)
	x.asksFrom(there, 80, 13, firstOwn+6)
	x.numbers(2, 3, 4, 5, 6, 7, 8, 9, 10, 11, 12, 13)
}

// 19.2: the last port may be the only one that is free, and none may be.
func TestLastPort(t *testing.T) {
	x := made(t, set, here)
	for port := firstOwn; port < mostPort; port++ {
		x.listen(port, api.OK)
	}
	x.asksFrom(there, 80, 1, mostPort)
	x.connectFails(there, 80, 0, api.ErrFull)
	x.asksFrom(there, 81, 2, mostPort)
	x.asksFrom(yon, 80, 3, mostPort)
	x.listen(mostPort, api.OK)
	x.connectFails(there, 82, 0, api.ErrFull)
	x.numbers(1, 2, 3)
	x.silence(firstOwn+9, api.OK)
	x.asksFrom(there, 80, 4, firstOwn+9)
}

// 19.2: what can't be, and what there is no room for; neither takes a number, or changes anything.
func TestConnectRefuses(t *testing.T) {
	s := set
	s.Room = 2
	x := made(t, s, here)
	x.listen(80, api.OK)
	refuses := func() {
		t.Helper()
		for _, n := range noWords {
			x.connectFails(n, 80, 0, api.ErrRange)
		}
		for _, n := range noPorts {
			x.connectFails(there, n, 0, api.ErrRange)
		}
		for _, n := range noTicks {
			x.connectFails(there, 80, n, api.ErrRange)
		}
	}
	refuses()
	x.empty()
	x.asksFrom(there, 80, 1, firstOwn)
	refuses()
	x.comes(80, 5, 2)
	refuses()
	x.connectFails(there, 80, 0, api.ErrFull)
	x.connectFails(yon, 1, api.MaxTick, api.ErrFull)
	x.numbers(1, 2)
	// Closed, but held: there is no room still.
	x.abort(1)
	x.connectFails(there, 80, 0, api.ErrFull)
	x.drop(1, api.OK)
	x.asksFrom(there, 80, 3, firstOwn)
	x.connectFails(there, 80, 0, api.ErrFull)
}

// 19.2, 19.3: the edges of what may be.
func TestFarEdges(t *testing.T) {
	for _, ip := range []int{0, 1, here, word} {
		for _, port := range []int{1, 80, firstOwn, mostPort} {
			x := made(t, set, here)
			x.asksFrom(ip, port, 1, firstOwn)
			x.listen(mostPort, api.OK)
			want := api.Ends{IP: here, Port: mostPort, FarIP: ip, FarPort: port}
			x.take(ip, syn(port, mostPort), 0, 2, to(ip, answer(mostPort, port, first(set.Key, want, 0)))...)
			x.ends(2, mostPort, ip, port)
		}
	}
}

// 19.2, 19.3: the first number is of the key, the ends and the tick.
func TestFirstNumbers(t *testing.T) {
	for _, key := range []int{0, 1, 7, 1 << 31, word} {
		for _, ip := range []int{0, here, 1 << 31, 0xC0A80001, word} {
			for _, now := range []int{0, 1, 2, 1 << 26, 1<<26 - 1, 1<<32 + 3, api.MaxTick - 1, api.MaxTick} {
				s := set
				s.Key = key
				x := made(t, s, ip)
				x.listen(80, api.OK)
				far := word - ip
				out := api.Ends{IP: ip, Port: firstOwn, FarIP: far, FarPort: 80}
				x.connect(far, 80, now, 1, to(far, question(firstOwn, 80, first(key, out, now)))...)
				in := api.Ends{IP: ip, Port: 80, FarIP: far, FarPort: 5}
				x.take(far, syn(5, 80), now, 2, to(far, answer(80, 5, first(key, in, now)))...)
			}
		}
	}
}

// 19.2: one that asks itself: its own SYN comes back to it.
func TestAsksItself(t *testing.T) {
	x := made(t, set, here)
	iss := first(set.Key, api.Ends{IP: here, Port: firstOwn, FarIP: here, FarPort: firstOwn}, 0)
	x.connect(here, firstOwn, 0, 1, to(here, question(firstOwn, firstOwn, iss))...)
	x.take(here, question(firstOwn, firstOwn, iss), 1, 1,
		to(here, asked(own(api.SYN, firstOwn, firstOwn, iss, iss+1, "")))...)
	x.is(1, api.SynRcvd, api.OK)
	x.acceptsNone(firstOwn)
}
