package host_test

import (
	"math"
	"testing"

	"sternpost/api"
	"sternpost/conn"
	"sternpost/host"
	"sternpost/table"
)

// first is the first number of a connection of the host, as chapter 19 has it.
func first(own, farIP, farPort, now int) int {
	x := uint32(set.Table.Key)
	for _, n := range []int{here, own, farIP, farPort} {
		x ^= uint32(n)
		x *= 16777619
	}
	return int(x + 64*uint32(now))
}

// opens is the SYN by which the host opens its first connection.
func opens(farIP, farPort, now int) api.Segment {
	return api.Segment{From: firstOwn, To: farPort, Seq: first(firstOwn, farIP, farPort, now), Flags: api.SYN, Window: 2000, Opts: api.Opts{MSS: 700, SackOK: true}}
}

// 22.3: neighbours are asked once more; what is lost then is lost.
func TestTickAsksAgain(t *testing.T) {
	x := made(t, set)
	x.ping(there, 1, 2, 0, asks(there))
	x.ping(9, 1, 2, 1, asks(9))
	x.tick(3, nil)
	x.tick(5, nil, asks(9), asks(there))
	x.tick(8, nil)
	x.tick(9, nil)
	x.frame(tells(), 9, nil)
	x.ping(there, 3, 4, 9, asks(there))
}

// 22.3: of pieces that are late the sender is told, if he may be, and if the first one came; by the host's own address.
func TestTickLate(t *testing.T) {
	x := knowing(t, with(func(s *host.Setup) { s.Room = 9 }))
	x.x.Own(99, true)
	piece := func(ident, frag, to int) api.Packet {
		p := strange(to, "12345678")
		p.More, p.Ident, p.Frag = true, ident, frag
		return p
	}
	nobody := piece(3, 0, here)
	nobody.From = 0
	unreached := piece(4, 0, here)
	unreached.Proto, unreached.Data = api.ProtoIcmp, "\x03\x02345678"
	question := piece(5, 0, here)
	question.Proto, question.Data = api.ProtoIcmp, "\x08\x00345678"
	for i, p := range []api.Packet{piece(2, 0, 99), piece(1, 1, here), piece(1, 0, here), piece(7, 1, here), nobody, unreached, question} {
		x.frame(comes(p), i/4, nil)
	}
	x.tick(8, nil)
	x.tick(9, nil, about(0, 11, 1, piece(2, 0, 99)), about(1, 11, 1, piece(1, 0, here)))
	x.tick(10, nil, about(2, 11, 1, question))
	x.tick(30, nil)
}

// 22.3: a Tick's frames: questions, then of pieces that are late, then of sockets.
func TestTickOrder(t *testing.T) {
	x := knowing(t, set)
	x.ask(api.Request{Tag: 5, Kind: api.SConnect, IP: there, Port: 6}, 0, nil, goes(0, here, api.ProtoTcp, segOf(here, there, opens(there, 6, 0))))
	p := strange(here, "12345678")
	p.More = true
	x.frame(comes(p), 0, nil)
	x.ping(77, 1, 2, 0, asks(77))
	x.tick(9, nil, asks(77), about(2, 11, 1, p), goes(3, here, api.ProtoTcp, segOf(here, there, opens(there, 6, 0))))
	x.tick(25, nil, goes(4, here, api.ProtoTcp, segOf(here, there, opens(there, 6, 0))))
	rst := api.Segment{From: firstOwn, To: 6, Seq: opens(there, 6, 0).Seq + 1, Flags: api.RST, Window: 2000}
	x.tick(57, did(api.Done{Tag: 5, Code: api.ErrTime}), goes(5, here, api.ProtoTcp, segOf(here, there, rst)))
	x.tick(90, nil)
}

// 22.3: tags are below 2^20, and at least 0.
func TestAskTags(t *testing.T) {
	x := made(t, set)
	for _, tag := range []int{firstTag, firstTag + 1, -1, 1 << 40, math.MinInt, math.MaxInt} {
		for _, now := range []int{5, -1, api.MaxTick + 1} {
			x.ask(api.Request{Tag: tag, Kind: api.SListen, Port: 90}, now, did(api.Done{Tag: tag, Code: api.ErrForm}))
			x.ask(api.Request{Tag: tag, Kind: 77}, now, did(api.Done{Tag: tag, Code: api.ErrForm}))
		}
	}
	x.now(0)
	x.ask(api.Request{Tag: 0, Kind: api.SListen, Port: 90}, 1, did(api.Done{FD: 1}))
	x.ask(api.Request{Tag: firstTag - 1, Kind: api.SListen, Port: 91}, 1, did(api.Done{Tag: firstTag - 1, FD: 2}))
	x.ask(api.Request{Tag: 0, Kind: api.SAccept, FD: 1}, 1, nil)
	x.ask(api.Request{Tag: firstTag - 1, Kind: api.SAccept, FD: 2}, 1, nil)
	x.ask(api.Request{Tag: 0, Kind: api.SAccept, FD: 2}, 1, nil)
	x.waiting(0, firstTag-1, 0)
	x.ask(api.Request{Tag: 7, Kind: 10}, 2, did(api.Done{Tag: 7, Code: api.ErrForm}))
	x.now(2)
	x.ask(api.Request{Tag: 7, Kind: api.SClose, FD: 2}, 1, nil)
	x.ask(api.Request{Tag: 7, Kind: api.SClose, FD: 2}, 2,
		did(api.Done{Tag: 7}, api.Done{Tag: firstTag - 1, Code: api.ErrNone}, api.Done{Tag: 0, Code: api.ErrNone}))
	x.waiting(0)
	x.ask(api.Request{Tag: 8, Kind: api.SListen, Port: port}, 2, did(api.Done{Tag: 8, Code: api.ErrUsed}))
}

// 22.3: what is asked goes out as soon as the neighbour is known, and is asked again else.
func TestAskSends(t *testing.T) {
	x := made(t, with(func(s *host.Setup) { s.Port = 0 }))
	syn := segOf(here, there, opens(there, 6, 3))
	x.ask(api.Request{Tag: 5, Kind: api.SConnect, IP: there, Port: 6}, 3, nil, asks(there))
	x.waiting(5)
	x.frame(tells(), 4, nil, goes(0, here, api.ProtoTcp, syn))
	answer := api.Segment{From: 6, To: firstOwn, Seq: 100, Ack: opens(there, 6, 3).Seq + 1, Flags: api.SYN | api.ACK, Window: 50}
	ack := api.Segment{From: firstOwn, To: 6, Seq: answer.Ack, Ack: 101, Flags: api.ACK, Window: 2000}
	x.frame(comes(api.Packet{From: there, To: here, TTL: 9, Proto: api.ProtoTcp, Data: segOf(there, here, answer)}), 5,
		did(api.Done{Tag: 5}), goes(1, here, api.ProtoTcp, segOf(here, there, ack)))
	data := ack
	data.Flags, data.Data = api.ACK|api.PSH, "data"
	x.ask(api.Request{Tag: 6, Kind: api.SWrite, Data: "data"}, 6, did(api.Done{Tag: 6, N: 4}), goes(2, here, api.ProtoTcp, segOf(here, there, data)))
	x.waiting()
	x.sessions(0)
}

// 22.3: what a Ping is refused for; it tells no tick then.
func TestPingRefuses(t *testing.T) {
	x := knowing(t, set)
	for _, n := range noIPs {
		x.ping(n, 1, 2, 3)
	}
	for _, n := range noPairs {
		x.ping(there, n, 2, 3)
		x.ping(there, 1, n, 3)
	}
	for _, n := range noTicks {
		x.ping(there, 1, 2, n)
	}
	x.now(0)
	x.ping(there, 0, mostPair, 3, goes(0, here, api.ProtoIcmp, icmpOf(api.Icmp{Type: 8, B: mostPair})))
	x.ping(there, mostPair, 0, 3, goes(1, here, api.ProtoIcmp, icmpOf(api.Icmp{Type: 8, A: mostPair})))
	x.ping(there, 1, 2, 2)
	x.ping(0, 1, 2, 4, asks(0))
	x.ping(mostIP, 1, 2, 4, asks(mostIP))
	x.now(4)
	x.echoes(0)
}

// 22.3: packets are counted modulo 65536, those too for which there is no room.
func TestIdents(t *testing.T) {
	x := knowing(t, set)
	for i := range mostPair {
		if i%2 == 0 {
			x.ping(there, 1, 2, 0, goes(i, here, api.ProtoIcmp, icmpOf(api.Icmp{Type: 8, A: 1, B: 2})))
		} else {
			x.x.Ping(77, 1, 2, 0)
		}
	}
	x.ping(there, 1, 2, 0, goes(mostPair, here, api.ProtoIcmp, icmpOf(api.Icmp{Type: 8, A: 1, B: 2})))
	x.ping(there, 1, 2, 0, goes(0, here, api.ProtoIcmp, icmpOf(api.Icmp{Type: 8, A: 1, B: 2})))
}

// 22.4: answers of echoes are counted, whoever asked.
func TestEchoes(t *testing.T) {
	x := knowing(t, with(func(s *host.Setup) {
		s.Table = table.Setup{Conn: conn.Setup{MSS: 1, Room: 1, First: 1, Least: 1, Most: 1, Linger: 1}, Backlog: 1, Room: 1}
	}))
	for i := range 5 {
		x.frame(comes(api.Packet{From: there + i, To: here, TTL: 1, Proto: api.ProtoIcmp, Data: icmpOf(api.Icmp{A: i})}), i, nil)
		x.echoes(i + 1)
	}
}

// 22.4: what is told is new each time, and not kept.
func TestToldIsNew(t *testing.T) {
	x := made(t, set)
	for tag := range 3 {
		x.ask(api.Request{Tag: tag, Kind: api.SAccept}, 0, nil)
	}
	l := x.x.Waiting()
	for i := range l {
		l[i] = 99
	}
	x.waiting(0, 1, 2)
	done, _ := x.x.Ask(api.Request{Tag: 3, Kind: api.SStat}, 0)
	_ = append(done, api.Done{Tag: 77})
	done[0].Tag = 77
	x.ask(api.Request{Tag: 4, Kind: api.SClose}, 0, did(api.Done{Tag: 4},
		api.Done{Tag: 0, Code: api.ErrNone}, api.Done{Tag: 1, Code: api.ErrNone}, api.Done{Tag: 2, Code: api.ErrNone}))
}
