package host_test

import (
	"slices"
	"testing"

	"sternpost/api"
	"sternpost/app"
	"sternpost/arp"
	"sternpost/ether"
	"sternpost/frag"
	"sternpost/host"
	"sternpost/icmp"
	"sternpost/ip"
	"sternpost/neigh"
	"sternpost/seg"
	"sternpost/sock"
)

// talked is a session, as all that was read of its client, and how much of the answer to that was written.
type talked struct {
	fd, tag, kind int
	heard         string
	told          int
}

// slow is a host as the words say it, word by word: frames are read layer by layer, and answers are told by what was read from the beginning on.
type slow struct {
	s      host.Setup
	cache  *neigh.Cache
	parts  *frag.Box
	socks  *sock.Box
	own    []int
	now    int
	ident  int
	echoes int
	tag    int
	accept int  // the tag of what waits for a connection; 0, if nothing does
	serves bool // whether its port listens
	talks  []talked
	done   []api.Done
	out    []string
	came   map[string]int
}

func slowOf(s host.Setup, came map[string]int) *slow {
	m := &slow{s: s, own: []int{s.IP}, tag: firstTag, came: came}
	m.cache, _ = neigh.New(s.Neigh, s.IP)
	m.parts, _ = frag.New(s.Room, s.Patience)
	m.socks, _ = sock.New(s.Table, s.IP)
	if s.Port != 0 {
		m.serves = true
		m.asked(m.socks.Ask(api.Request{Tag: m.tag, Kind: api.SListen, Port: s.Port}, 0))
	}
	return m
}

// may tells whether a tick may be, and goes there.
func (m *slow) may(now int) bool {
	if now < m.now || now > api.MaxTick {
		m.came["no tick"]++
		return false
	}
	m.now = now
	return true
}

func (m *slow) frame(s string, now int) {
	f, e := ether.Decode(s)
	if e != api.OK || !ether.For(f, m.s.Mac) {
		m.came["no frame, or for others"]++
		return
	}
	if !m.may(now) {
		return
	}
	a, arpCode := arp.Decode(f.Data)
	p, ipCode := ip.Decode(f.Data)
	switch {
	case f.Type == api.TypeArp && arpCode == api.OK:
		m.arp(a)
	case f.Type == api.TypeIP && ipCode == api.OK:
		if !ip.Whole(p) || m.mayBe(p) {
			m.packet(p)
		}
	default:
		m.came["wrong"]++
	}
}

// mayBe tells whether nothing is wrong within a whole packet.
func (m *slow) mayBe(p api.Packet) bool {
	e := ip.Check(p)
	switch {
	case e == api.OK && p.Proto == api.ProtoIcmp:
		_, e = icmp.Decode(p.Data)
	case e == api.OK && p.Proto == api.ProtoTcp:
		_, e = seg.Decode(p.From, p.To, p.Data)
	}
	if e != api.OK {
		m.came["wrong within"]++
	}
	return e == api.OK
}

func (m *slow) arp(a api.Arp) {
	answer, waited, mac, e := m.cache.Take(a, m.now)
	if e != api.OK {
		m.came["claimed"]++
	}
	if answer.Op != 0 {
		m.came["asked for"]++
		m.arpOut(a.FromMac, answer)
	}
	for _, p := range waited {
		m.came["waited"]++
		m.packetOut(mac, p)
	}
}

func (m *slow) arpOut(to int, a api.Arp) {
	s, _ := arp.Encode(a)
	f, _ := ether.Encode(api.Frame{To: to, From: m.s.Mac, Type: api.TypeArp, Data: s})
	m.out = append(m.out, f)
}

func (m *slow) packetOut(to int, p api.Packet) {
	s, _ := ip.Encode(p)
	f, _ := ether.Encode(api.Frame{To: to, From: m.s.Mac, Type: api.TypeIP, Data: s})
	m.out = append(m.out, f)
}

func (m *slow) packet(p api.Packet) {
	if !slices.Contains(m.own, p.To) {
		m.came["to others"]++
		return
	}
	if !ip.Whole(p) {
		whole, ok, e := m.parts.Take(p, m.now)
		if e != api.OK {
			m.came["pieces that do not fit"]++
		}
		if !ok || !m.mayBe(whole) {
			return
		}
		m.came["put together"]++
		p = whole
	}
	switch p.Proto {
	case api.ProtoIcmp:
		x, _ := icmp.Decode(p.Data)
		switch {
		case x.Code != 0:
		case x.Type == 8:
			m.came["echoed"]++
			x.Type = 0
			m.icmpOut(p.To, p.From, x)
		case x.Type == 0:
			m.came["echo"]++
			m.echoes++
		}
	case api.ProtoTcp:
		if p.To == m.s.IP {
			s, _ := seg.Decode(p.From, p.To, p.Data)
			m.asked(m.socks.Take(p.From, s, m.now))
		}
	default:
		m.tell(3, 2, p)
	}
}

func (m *slow) tell(kind, code int, p api.Packet) {
	if !icmp.May(p) {
		m.came["may not be told"]++
		return
	}
	m.came["told "+string(rune('a'+kind))]++
	x, _ := icmp.About(kind, code, p)
	m.icmpOut(m.s.IP, p.From, x)
}

func (m *slow) icmpOut(from, to int, x api.Icmp) {
	s, _ := icmp.Encode(x)
	m.send(from, to, api.ProtoIcmp, s)
}

func (m *slow) send(from, to, proto int, data string) {
	p := api.Packet{From: from, To: to, TTL: 64, Proto: proto, Ident: m.ident % 65536, Dont: len(data) <= 1480, Data: data}
	m.ident++
	l, _ := ip.Pieces(p, 1500)
	if len(l) > 1 {
		m.came["cut"]++
	}
	for _, q := range l {
		mac, ask, e := m.cache.Send(q, to, m.now)
		switch e {
		case api.OK:
			m.packetOut(mac, q)
		case api.ErrFull:
			m.came["too many wait"]++
		}
		if ask.Op != 0 {
			m.arpOut(api.Everyone, ask)
		}
	}
}

// asked takes what a call of the sockets came to, and asks what the server asks then.
func (m *slow) asked(done []api.Done, out []api.Out) {
	for full := false; ; {
		for _, o := range out {
			data, _ := seg.Encode(m.s.IP, o.To, o.S)
			m.send(m.s.IP, o.To, api.ProtoTcp, data)
		}
		if len(done) > 0 {
			d := done[0]
			full = full || d.Tag == m.accept && (d.Code == api.ErrFull || d.Code == api.ErrLong)
			var more []api.Done
			more, out = m.heard(d)
			done = append(slices.Clone(done[1:]), more...)
			continue
		}
		if !m.serves || m.accept != 0 || full {
			return
		}
		m.tag++
		m.accept = m.tag
		done, out = m.socks.Ask(api.Request{Tag: m.tag, Kind: api.SAccept}, m.now)
	}
}

// heard takes what one request came to: what comes of that.
func (m *slow) heard(d api.Done) (done []api.Done, out []api.Out) {
	if d.Tag < firstTag {
		m.done = append(m.done, d)
		return nil, nil
	}
	if d.Tag == m.accept {
		m.accept = 0
		switch d.Code {
		case api.OK:
			m.came["let in"]++
			m.talks = append(m.talks, talked{fd: d.FD})
			return m.ask(len(m.talks)-1, api.Request{Kind: api.SRead, N: 512})
		case api.ErrNone, api.ErrShape:
			m.came["port closed"]++
			m.serves = false
		default:
			m.came["no room to let in"]++
		}
		return nil, nil
	}
	for i := range m.talks {
		if m.talks[i].tag == d.Tag {
			return m.goesOn(i, d)
		}
	}
	return nil, nil
}

func (m *slow) goesOn(i int, d api.Done) (done []api.Done, out []api.Out) {
	x := &m.talks[i]
	switch {
	case x.kind == api.SClose:
		m.talks = slices.Delete(m.talks, i, i+1)
		return nil, nil
	case d.Code != api.OK:
		m.came["session refused"]++
		return m.ask(i, api.Request{Kind: api.SClose})
	}
	x.heard += d.Data
	answer, over := app.Answer(x.heard)
	switch {
	case len(answer) > x.told:
		m.came["answered"]++
		r := api.Request{Kind: api.SWrite, Data: answer[x.told:]}
		x.told = len(answer)
		return m.ask(i, r)
	case over:
		m.came["session over"]++
		return m.ask(i, api.Request{Kind: api.SClose})
	}
	return m.ask(i, api.Request{Kind: api.SRead, N: 512})
}

func (m *slow) ask(i int, r api.Request) (done []api.Done, out []api.Out) {
	m.tag++
	x := &m.talks[i]
	r.Tag, r.FD = m.tag, x.fd
	x.tag, x.kind = r.Tag, r.Kind
	return m.socks.Ask(r, m.now)
}

func (m *slow) tick(now int) {
	if !m.may(now) {
		return
	}
	asks, lost, _ := m.cache.Tick(now)
	for _, a := range asks {
		m.came["asked again"]++
		m.arpOut(api.Everyone, a)
	}
	if len(lost) > 0 {
		m.came["lost"]++
	}
	late, _ := m.parts.Tick(now)
	for _, p := range late {
		m.tell(11, 1, p)
	}
	m.asked(m.socks.Tick(now))
}

func (m *slow) request(r api.Request, now int) {
	if r.Tag < 0 || r.Tag >= firstTag {
		m.came["no tag"]++
		m.done = append(m.done, api.Done{Tag: r.Tag, Code: api.ErrForm})
	} else if m.may(now) {
		m.asked(m.socks.Ask(r, now))
	}
}

func (m *slow) ping(to, a, b, now int) {
	if min(to, a, b) < 0 || to > mostIP || max(a, b) > mostPair {
		m.came["no ping"]++
	} else if m.may(now) {
		m.icmpOut(m.s.IP, to, api.Icmp{Type: 8, A: a, B: b})
	}
}

func (m *slow) has(ip int, have bool) api.Code {
	if ip == m.s.IP && !have {
		m.came["its own"]++
		return api.ErrShape
	}
	if e := m.cache.Own(ip, have); e != api.OK {
		return e
	}
	m.own = slices.DeleteFunc(m.own, func(n int) bool { return n == ip })
	if have {
		m.own = append(m.own, ip)
	}
	return api.OK
}

// both is a host, and the slow one beside it: each call goes to both, and is looked at.
type both struct {
	side
	m *slow
}

func bothOf(t *testing.T, s host.Setup, came map[string]int) *both {
	t.Helper()
	return &both{made(t, s), slowOf(s, came)}
}

// told looks at what a call told, and at all that can be asked behind it.
func (b *both) told(what string, done []api.Done, out []string) []string {
	b.t.Helper()
	b.is(what, done, b.m.done, out, b.m.out)
	b.m.done, b.m.out = nil, nil
	b.now(b.m.now)
	b.echoes(b.m.echoes)
	b.sessions(len(b.m.talks))
	b.waiting(slices.DeleteFunc(b.m.socks.Waiting(), func(tag int) bool { return tag >= firstTag })...)
	return out
}

func (b *both) hears(f string, now int) []string {
	b.t.Helper()
	b.m.frame(f, now)
	done, out := b.x.Frame(f, now)
	return b.told("Frame", done, out)
}

func (b *both) ticks(now int) []string {
	b.t.Helper()
	b.m.tick(now)
	done, out := b.x.Tick(now)
	return b.told("Tick", done, out)
}

func (b *both) asks(r api.Request, now int) []string {
	b.t.Helper()
	b.m.request(r, now)
	done, out := b.x.Ask(r, now)
	return b.told("Ask", done, out)
}

func (b *both) pings(to, x, y, now int) []string {
	b.t.Helper()
	b.m.ping(to, x, y, now)
	return b.told("Ping", nil, b.x.Ping(to, x, y, now))
}

func (b *both) owns(ip int, have bool) {
	b.t.Helper()
	if e, want := b.x.Own(ip, have), b.m.has(ip, have); e != want {
		b.t.Fatalf("Own(%d, %v): %d, want %d", ip, have, e, want)
	}
	b.told("Own", nil, nil)
}
