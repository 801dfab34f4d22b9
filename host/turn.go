package host

import (
	"slices"

	"sternpost/api"
	"sternpost/arp"
	"sternpost/ether"
	"sternpost/icmp"
	"sternpost/ip"
	"sternpost/seg"
)

const (
	ttl        = 64
	idents     = 1 << 16 // where a packet's number begins from 0 again
	mostPacket = 1500    // the bytes that a frame has room for
)

// The types and codes of ICMP packets that a host asks for, or tells.
const (
	answerType = 0
	askType    = 8

	unreachType  = 3
	protocolCode = 2
	lateType     = 11
	partsCode    = 1
)

// turn is one call of a host, at its tick: what came of it so far.
type turn struct {
	*Host
	done []api.Done
	out  []string
	news []api.Done // what requests came to, the server's too, that was not looked at so far
}

// open looks what a frame has within. Of what is wrong there nothing comes.
func (t *turn) open(s string) {
	x, ok := read(s)
	switch {
	case !ok:
	case x.Kind == api.PArp:
		t.learn(x.Arp)
	default:
		t.take(x)
	}
}

// learn hears an ARP packet. What is refused has neither an answer nor anything that waited.
func (t *turn) learn(a api.Arp) {
	answer, waited, mac, _ := t.cache.Take(a, t.now)
	t.tellArp(answer.ToMac, answer)
	for _, p := range waited {
		t.tellPacket(mac, p)
	}
}

// take hears a packet, or a piece of one: nothing comes of that until all pieces are there.
func (t *turn) take(x api.Parsed) {
	if !slices.Contains(t.cache.Mine(), x.Packet.To) {
		return
	}
	if x.Kind == api.PPiece {
		p, ok, _ := t.parts.Take(x.Packet, t.now)
		if !ok {
			return
		}
		if x, ok = within(p); !ok {
			return
		}
	}
	switch x.Kind {
	case api.PIcmp:
		t.takeIcmp(x.Packet, x.Icmp)
	case api.PTcp:
		if x.Packet.To == t.ip {
			t.hear(t.socks.Take(x.Packet.From, x.Segment, t.now))
		}
	case strange:
		t.about(unreachType, protocolCode, x.Packet)
	}
}

func (t *turn) takeIcmp(p api.Packet, m api.Icmp) {
	if answer, e := icmp.Answer(m); e == api.OK {
		t.message(p.To, p.From, answer)
	}
	if m.Type == answerType && m.Code == 0 {
		t.echoes++
	}
}

// askAgain asks for neighbours that did not answer.
func (t *turn) askAgain() {
	asks, _, _ := t.cache.Tick(t.now)
	for _, a := range asks {
		t.tellArp(api.Everyone, a)
	}
}

// giveUp tells of packets whose pieces took too long.
func (t *turn) giveUp() {
	late, _ := t.parts.Tick(t.now)
	for _, p := range late {
		t.about(lateType, partsCode, p)
	}
}

// about tells a packet's sender what became of it.
func (t *turn) about(kind, code int, p api.Packet) {
	if !icmp.May(p) {
		return
	}
	m, _ := icmp.About(kind, code, p) // of what may be told nothing is refused
	t.message(t.ip, p.From, m)
}

// hear sends what went out of sockets, and keeps what requests came to until it is looked at.
func (t *turn) hear(done []api.Done, out []api.Out) {
	for _, o := range out {
		data, _ := seg.Encode(t.ip, o.To, o.S) // a connection sends nothing that may not be
		t.send(api.Packet{From: t.ip, To: o.To, Proto: api.ProtoTcp, Data: data})
	}
	t.news = append(t.news, done...)
}

// message sends an ICMP packet that may be.
func (t *turn) message(from, to int, m api.Icmp) {
	data, _ := icmp.Encode(m)
	t.send(api.Packet{From: from, To: to, Proto: api.ProtoIcmp, Data: data})
}

// send sends a packet of which its caller tells the ends, the protocol and the data. It is cut only where it must be.
func (t *turn) send(p api.Packet) {
	p.TTL, p.Ident, p.Dont = ttl, t.ident, true
	t.ident = (t.ident + 1) % idents
	pieces, e := ip.Pieces(p, mostPacket)
	if e == api.ErrLong {
		p.Dont = false
		pieces, _ = ip.Pieces(p, mostPacket)
	}
	for _, x := range pieces {
		mac, ask, e := t.cache.Send(x, x.To, t.now)
		if e == api.OK {
			t.tellPacket(mac, x)
		}
		t.tellArp(api.Everyone, ask)
	}
}

// tellArp lets an ARP packet out, if it is one: calls tell one of zeros where there is none.
func (t *turn) tellArp(mac int, a api.Arp) {
	if a != (api.Arp{}) {
		t.out = append(t.out, t.arpFrame(mac, a))
	}
}

func (t *turn) tellPacket(mac int, p api.Packet) {
	data, _ := ip.Encode(p)
	t.out = append(t.out, t.frame(mac, api.TypeIP, data))
}

func (h *Host) arpFrame(mac int, a api.Arp) string {
	data, _ := arp.Encode(a)
	return h.frame(mac, api.TypeArp, data)
}

// frame leans on an address and data that may be: nothing is refused.
func (h *Host) frame(mac, kind int, data string) string {
	s, _ := ether.Encode(api.Frame{To: mac, From: h.mac, Type: kind, Data: data})
	return s
}
