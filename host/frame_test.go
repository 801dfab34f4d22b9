package host_test

import (
	"strings"
	"testing"

	"sternpost/api"
	"sternpost/host"
	"sternpost/icmp"
	"sternpost/ip"
)

// spoilt is a text with another byte at a place.
func spoilt(s string, at int) string {
	b := []byte(s)
	b[at] ^= 1
	return string(b)
}

// about is the frame by which the host tells there what became of a packet.
func about(ident, kind, code int, p api.Packet) string {
	m, e := icmp.About(kind, code, p)
	if e != api.OK {
		panic("a packet that nothing is told about")
	}
	return goes(ident, here, api.ProtoIcmp, icmpOf(m))
}

// piecesOf are a packet's pieces.
func piecesOf(p api.Packet, most int) []api.Packet {
	l, e := ip.Pieces(p, most)
	if e != api.OK {
		panic("a packet that is not cut")
	}
	return l
}

// 22.2: what is no frame, or for others, or comes at no tick, comes to nothing, and no tick is told by it.
func TestFrameIsNone(t *testing.T) {
	x := knowing(t, set)
	x.tick(4, nil)
	ping := echo(here, 1, 2, "")
	good := comes(ping)
	for name, s := range map[string]string{
		"nothing":         "",
		"a byte":          "x",
		"cut":             good[:13],
		"too long":        good + strings.Repeat("x", 1500),
		"for another one": packetOf(thereMac, hereMac+1, ping),
		"for a group":     packetOf(thereMac, 1<<40, ping),
		"for who sent it": packetOf(thereMac, thereMac, ping),
		"ARP, for others": arpOf(thereMac, thereMac, api.Arp{Op: api.ArpAsk, FromMac: thereMac, FromIP: there, ToIP: here}),
		"of a group":      good[:6] + "\x01" + good[7:],
	} {
		t.Run(name, func(t *testing.T) {
			x.t = t
			x.frame(s, 9, nil)
			x.now(4)
		})
	}
	x.t = t
	x.frame(good, 3, nil)
	x.frame(good, api.MaxTick+1, nil)
	x.frame(spoilt(good, len(good)-1), 3, nil)
	x.frame(spoilt(good, len(good)-1), api.MaxTick+1, nil)
	x.now(4)
	x.echoes(0)
	x.frame(good, 4, nil, goes(0, here, api.ProtoIcmp, icmpOf(api.Icmp{A: 1, B: 2})))
}

// 22.1, 22.2: what is wrong within a frame for the host comes to nothing, but the frame came at its tick: none below is heard behind it.
func TestFrameIsWrong(t *testing.T) {
	good := comes(echo(here, 1, 2, ""))
	other := echo(here+50, 1, 2, "")
	question := arpOf(thereMac, api.Everyone, api.Arp{Op: api.ArpAsk, FromMac: thereMac, FromIP: there, ToIP: here})
	tcp := comes(api.Packet{From: there, To: here, TTL: 9, Proto: api.ProtoTcp, Data: segOf(there, here, api.Segment{From: 5, To: port, Flags: api.SYN})})
	for name, s := range map[string]string{
		"without data":        good[:14],
		"cut":                 good[:30],
		"of another type":     bytesOf(thereMac, hereMac, 0x0801, good[14:]),
		"to all, without any": bytesOf(thereMac, api.Everyone, 0xffff, ""),
		"no ARP":              spoilt(question, 15),
		"the header's sum":    spoilt(good, 14+8),
		"ICMP's sum":          spoilt(good, len(good)-1),
		"ICMP's sum, another": spoilt(comes(other), len(good)-1),
		"TCP's sum":           spoilt(tcp, len(tcp)-1),
		"no ICMP":             comes(api.Packet{From: there, To: here, TTL: 9, Proto: api.ProtoIcmp, Data: "\x08\x00"}),
		"no segment":          comes(api.Packet{From: there, To: here, TTL: 9, Proto: api.ProtoTcp, Data: "\x00\x05"}),
		"strange, a sum off":  spoilt(comes(strange(here, "12345678")), 14+8),
	} {
		t.Run(name, func(t *testing.T) {
			x := knowing(t, set)
			x.tick(4, nil)
			x.frame(s, 9, nil)
			x.now(9)
			x.ping(there, 1, 2, 8)
			x.frame(good, 8, nil)
			x.echoes(0)
			x.frame(good, 9, nil, goes(0, here, api.ProtoIcmp, icmpOf(api.Icmp{A: 1, B: 2})))
		})
	}
	x := knowing(t, set)
	x.frame(spoilt(good, len(good)-1), api.MaxTick, nil)
	x.now(api.MaxTick)
}

// 22.2: a frame to all is heard as well as one to its own.
func TestFrameToAll(t *testing.T) {
	x := knowing(t, set)
	x.frame(packetOf(thereMac, api.Everyone, echo(here, 1, 2, "")), 0, nil, goes(0, here, api.ProtoIcmp, icmpOf(api.Icmp{A: 1, B: 2})))
	x.frame(packetOf(thereMac, api.Everyone, strange(here, "12345678")), 0, nil, about(1, 3, 2, strange(here, "12345678")))
}

// 22.2: a question is answered to who asks, also where another one's frame brings it; then comes what waited for him, in order.
func TestFrameArp(t *testing.T) {
	x := made(t, set)
	x.ping(there, 1, 2, 0, asks(there))
	x.ping(there, 3, 4, 1)
	x.ping(77, 5, 6, 1, asks(77))
	const far = 1 << 30
	question := arpOf(far, api.Everyone, api.Arp{Op: api.ArpAsk, FromMac: thereMac, FromIP: there, ToIP: here})
	x.frame(question, 2, nil,
		arpOf(hereMac, thereMac, api.Arp{Op: api.ArpTell, FromMac: hereMac, FromIP: here, ToMac: thereMac, ToIP: there}),
		goes(0, here, api.ProtoIcmp, icmpOf(api.Icmp{Type: 8, A: 1, B: 2})),
		goes(1, here, api.ProtoIcmp, icmpOf(api.Icmp{Type: 8, A: 3, B: 4})))
	x.now(2)
	// What was told is known: nobody is asked, and nothing waits.
	x.ping(there, 7, 8, 101, goes(3, here, api.ProtoIcmp, icmpOf(api.Icmp{Type: 8, A: 7, B: 8})))
	x.ping(there, 7, 8, 102, asks(there))
}

// 22.2: an answer brings only what waited; a question for others nothing.
func TestFrameArpTells(t *testing.T) {
	x := made(t, set)
	x.frame(tells(), 0, nil)
	x.ping(there, 1, 2, 0, asks(there))
	x.frame(arpOf(thereMac, api.Everyone, api.Arp{Op: api.ArpAsk, FromMac: thereMac + 1, FromIP: there + 100, ToIP: 99}), 0, nil)
	x.frame(tells(), 0, nil, goes(0, here, api.ProtoIcmp, icmpOf(api.Icmp{Type: 8, A: 1, B: 2})))
	x.frame(tells(), 0, nil)
}

// 22.2: a packet to others is nothing, though its frame is for the host: but the tick is told by it.
func TestFramePacketForOthers(t *testing.T) {
	x := knowing(t, set)
	p := echo(here, 1, 2, "12345678")
	for i, to := range []int{there, 0, mostIP, here + 1} {
		q := p
		q.To = to
		x.frame(comes(q), i+1, nil)
		x.now(i + 1)
		x.frame(comes(strange(to, "")), i+1, nil)
		q.More = true
		x.frame(comes(q), i+1, nil)
	}
	x.tick(30, nil)
	x.echoes(0)
}

// 22.2: an echo's question is answered, from where it was sent to; its answer is counted; other ones are nothing.
func TestFrameIcmp(t *testing.T) {
	x := knowing(t, set)
	x.x.Own(99, true)
	x.frame(comes(echo(99, 500, mostPair, "data")), 1, nil, goes(0, 99, api.ProtoIcmp, icmpOf(api.Icmp{A: 500, B: mostPair, Data: "data"})))
	x.frame(comes(echo(here, 0, 0, "")), 1, nil, goes(1, here, api.ProtoIcmp, icmpOf(api.Icmp{})))
	take := func(kind, code, echoes int) {
		t.Helper()
		m := icmpOf(api.Icmp{Type: kind, Code: code, A: 1, B: 2, Data: "data"})
		x.frame(comes(api.Packet{From: there, To: here, TTL: 9, Proto: api.ProtoIcmp, Data: m}), 1, nil)
		x.echoes(echoes)
	}
	take(0, 0, 1)
	take(0, 0, 2)
	for kind := range 256 {
		for _, code := range []int{0, 1, 255} {
			if code != 0 || kind != 0 && kind != 8 {
				take(kind, code, 2)
			}
		}
	}
	m := icmpOf(api.Icmp{})
	x.frame(comes(api.Packet{From: there, To: 99, TTL: 9, Proto: api.ProtoIcmp, Data: m}), 1, nil)
	x.echoes(3)
}

// 22.2: the bytes of an echo's answer.
func TestFrameBytes(t *testing.T) {
	const ask = "\x00\x00\x00\x00\x00\x0d\x00\x00\x00\x00\x00\x0c\x08\x00" +
		"\x45\x00\x00\x1c\x00\x05\x00\x00\x09\x01\xb1\xc8\x00\x00\x00\x0a\x00\x00\x00\x0b" +
		"\x08\x00\xf7\xfc\x00\x01\x00\x02"
	const answer = "\x00\x00\x00\x00\x00\x0c\x00\x00\x00\x00\x00\x0d\x08\x00" +
		"\x45\x00\x00\x1c\x00\x00\x40\x00\x40\x01\x3a\xcd\x00\x00\x00\x0b\x00\x00\x00\x0a" +
		"\x00\x00\xff\xfc\x00\x01\x00\x02"
	x := knowing(t, set)
	x.frame(ask, 0, nil, answer)
}

// 22.2: of other protocols the sender is told, if he may be, by the host's own address.
func TestFrameStrange(t *testing.T) {
	x := knowing(t, set)
	x.x.Own(99, true)
	ident := 0
	for _, proto := range []int{0, 2, 5, 7, 17, 255} {
		for _, to := range []int{here, 99} {
			for _, data := range []string{"", "1234", "12345678", "123456789"} {
				p := strange(to, data)
				p.Proto = proto
				x.frame(comes(p), 1, nil, about(ident, 3, 2, p))
				ident++
			}
		}
	}
	p := strange(here, "12345678")
	p.Options = "\x01\x01\x01\x01"
	x.frame(comes(p), 1, nil, about(ident, 3, 2, p))
	p.From = 0
	x.frame(comes(p), 1, nil)
	p.From, p.To = there, mostIP
	x.x.Own(mostIP, true)
	x.frame(comes(p), 1, nil)
	x.ping(there, 1, 2, 1, goes(ident+1, here, api.ProtoIcmp, icmpOf(api.Icmp{Type: 8, A: 1, B: 2})))
}

// 22.2: what comes in pieces is nothing until it is whole, and then as if it had come so.
func TestFramePieces(t *testing.T) {
	x := knowing(t, set)
	data := strings.Repeat("0123456789", 30)
	p := echo(here, 1, 2, data)
	l := piecesOf(p, 100)
	for _, i := range []int{3, 1, 2, 2} {
		x.frame(comes(l[i]), 1, nil)
	}
	x.frame(comes(l[0]), 2, nil, goes(0, here, api.ProtoIcmp, icmpOf(api.Icmp{A: 1, B: 2, Data: data})))
	x.frame(comes(l[0]), 2, nil)
	x.tick(9, nil)
	x.tick(11, nil, about(1, 11, 1, l[0]))
	// of another protocol
	q := strange(here, data)
	l = piecesOf(q, 200)
	x.frame(comes(l[0]), 11, nil)
	x.frame(comes(l[1]), 11, nil, about(2, 3, 2, q))
	// an answer
	m := p
	m.Data = icmpOf(api.Icmp{Data: data})
	l = piecesOf(m, 200)
	x.frame(comes(l[1]), 11, nil)
	x.frame(comes(l[0]), 11, nil)
	x.echoes(1)
	// what is wrong within
	m.Data = spoilt(m.Data, 100)
	l = piecesOf(m, 200)
	x.frame(comes(l[1]), 11, nil)
	x.frame(comes(l[0]), 12, nil)
	x.echoes(1)
	x.now(12)
	x.tick(40, nil)
}

// 22.2: pieces that do not fit, or for which there is no room, are nothing.
func TestFramePiecesRefused(t *testing.T) {
	x := knowing(t, set)
	first := func(ident int) api.Packet {
		p := strange(here, "12345678")
		p.More, p.Ident = true, ident
		return p
	}
	for ident := range 3 {
		x.frame(comes(first(ident)), 1, nil)
	}
	clash := first(1)
	clash.Data = "12345679"
	x.frame(comes(clash), 2, nil)
	x.now(2)
	last := func(ident int) api.Packet {
		p := strange(here, "9")
		p.Frag, p.Ident = 1, ident
		return p
	}
	x.frame(comes(last(1)), 3, nil)
	x.frame(comes(last(2)), 3, nil)
	x.frame(comes(last(0)), 4, nil, about(0, 3, 2, func() api.Packet {
		p := strange(here, "123456789")
		p.Ident = 0
		return p
	}()))
}

// 22.2: a packet may come out too long for what chapter 9 reads, where its first piece has longer options than the others.
func TestFramePiecesTooLong(t *testing.T) {
	x := knowing(t, set)
	p := echo(here, 1, 2, strings.Repeat("x", 65500))
	l := piecesOf(p, 1500)
	l[0].Options = strings.Repeat("\x01", 40)
	first := piecesOf(l[0], 1500)
	for _, q := range append(l[1:], first...) {
		x.frame(comes(q), 1, nil)
	}
	x.tick(20, nil)
	x.echoes(0)
}

// 22.2: the greatest echo is answered, in pieces.
func TestFrameGreatest(t *testing.T) {
	x := knowing(t, set)
	p := echo(here, 1, 2, strings.Repeat("0123456789abc", 5038)+"012345")
	l := piecesOf(p, 1500)
	for _, q := range l[1:] {
		x.frame(comes(q), 1, nil)
	}
	m := p.Data[8:]
	answer := sent(0, here, there, api.ProtoIcmp, icmpOf(api.Icmp{A: 1, B: 2, Data: m}))
	answer.Dont = false
	var want []string
	for _, q := range piecesOf(answer, 1500) {
		want = append(want, packetOf(hereMac, thereMac, q))
	}
	if len(want) != 45 {
		t.Fatalf("%d pieces", len(want))
	}
	x.frame(comes(l[0]), 1, nil, want...)
	x.frame(comes(echo(here, 1, 2, "")), 1, nil, goes(1, here, api.ProtoIcmp, icmpOf(api.Icmp{A: 1, B: 2})))
}

// 22.2: what just fits a frame is not cut.
func TestFrameJustFits(t *testing.T) {
	x := knowing(t, set)
	data := strings.Repeat("x", 1472)
	x.frame(comes(echo(here, 1, 2, data)), 1, nil, goes(0, here, api.ProtoIcmp, icmpOf(api.Icmp{A: 1, B: 2, Data: data})))
	l := piecesOf(echo(here, 1, 2, data+"y"), 1500)
	x.frame(comes(l[0]), 1, nil)
	_, out := x.x.Frame(comes(l[1]), 1)
	if len(out) != 2 || len(out[0]) != 1514 || len(out[1]) != 14+20+1 {
		t.Errorf("%q", out)
	}
}

// 22.2: pieces wait, too: as many as there is room for, and one question is asked for all.
func TestFramePiecesWait(t *testing.T) {
	x := made(t, set)
	p := echo(here, 1, 2, strings.Repeat("x", 6000))
	l := piecesOf(p, 1500)
	for _, q := range l[1:] {
		x.frame(comes(q), 1, nil)
	}
	x.frame(comes(l[0]), 1, nil, asks(there))
	x.frame(comes(echo(here, 3, 4, "")), 1, nil)
	answer := sent(0, here, there, api.ProtoIcmp, icmpOf(api.Icmp{A: 1, B: 2, Data: p.Data[8:]}))
	answer.Dont = false
	var want []string
	for _, q := range piecesOf(answer, 1500)[:3] {
		want = append(want, packetOf(hereMac, thereMac, q))
	}
	x.frame(tells(), 2, nil, want...)
	x.frame(comes(echo(here, 3, 4, "")), 2, nil, goes(2, here, api.ProtoIcmp, icmpOf(api.Icmp{A: 3, B: 4})))
}

// 22.2: a segment to its address goes to the sockets; to another one of its own it is nothing.
func TestFrameSegment(t *testing.T) {
	x := knowing(t, set)
	x.x.Own(99, true)
	lone := api.Segment{From: 5, To: 6, Seq: 7, Ack: 8, Flags: api.ACK, Window: 9, Data: "data"}
	tcp := func(to int) string {
		return comes(api.Packet{From: there, To: to, TTL: 9, Proto: api.ProtoTcp, Data: segOf(there, to, lone)})
	}
	reset := segOf(here, there, api.Segment{From: 6, To: 5, Seq: 8, Flags: api.RST})
	x.frame(tcp(99), 1, nil)
	x.frame(tcp(here), 1, nil, goes(0, here, api.ProtoTcp, reset))
	x.now(1)
	for _, q := range piecesOf(api.Packet{From: there, To: 99, TTL: 9, Proto: api.ProtoTcp, Ident: 1, Data: segOf(there, 99, lone)}, 28) {
		x.frame(comes(q), 1, nil)
	}
	l := piecesOf(api.Packet{From: there, To: here, TTL: 9, Proto: api.ProtoTcp, Ident: 1, Data: segOf(there, here, lone)}, 36)
	x.frame(comes(l[0]), 1, nil)
	x.frame(comes(l[1]), 1, nil, goes(1, here, api.ProtoTcp, reset))
}

// 22.2: to whom nobody answers nothing goes out; who has his frame from elsewhere is answered where he is known to be.
func TestFrameGoesToNeighbour(t *testing.T) {
	x := knowing(t, set)
	x.frame(packetOf(thereMac+8, hereMac, echo(here, 1, 2, "")), 1, nil, goes(0, here, api.ProtoIcmp, icmpOf(api.Icmp{A: 1, B: 2})))
	far := echo(here, 1, 2, "")
	far.From = 77
	x.frame(packetOf(thereMac, hereMac, far), 1, nil, asks(77))
	far.From = here
	x.frame(packetOf(thereMac, hereMac, far), 1, nil, asks(here))
}

// 22.2: two hosts on a wire, as the document's example has it.
func TestFrameExample(t *testing.T) {
	s := with(func(s *host.Setup) { s.Mac, s.Neigh.Mac, s.IP = thereMac, thereMac, there })
	a, b := made(t, s), made(t, set)
	l := a.x.Ping(here, 1, 2, 0)
	for _, x := range []side{b, a, b, a} {
		if len(l) != 1 {
			t.Fatalf("%q", l)
		}
		_, l = x.x.Frame(l[0], 0)
	}
	a.echoes(1)
	b.echoes(0)
}

// P1: no frame breaks a host off, wherever it is cut or spoilt.
func TestFrameSpoilt(t *testing.T) {
	x := knowing(t, set)
	syn := segOf(there, here, api.Segment{From: 5, To: port, Flags: api.SYN, Opts: api.Opts{MSS: 100, SackOK: true}})
	first := piecesOf(echo(here, 1, 2, "0123456789"), 28)[0]
	for _, f := range []string{tells(), asks(there), comes(echo(here, 1, 2, "data")), comes(strange(here, "data")), comes(first),
		comes(api.Packet{From: there, To: here, TTL: 9, Proto: api.ProtoTcp, Data: syn})} {
		for i := range f {
			x.x.Frame(f[:i], 1)
			for _, c := range []byte{1, 16, 128, 255} {
				b := []byte(f)
				b[i] ^= c
				x.x.Frame(string(b), 1)
			}
		}
		x.x.Frame(f+strings.Repeat("\x00", 2000), 1)
	}
	x.x.Tick(9)
}
