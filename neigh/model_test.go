package neigh_test

import (
	"slices"
	"testing"

	"sternpost/api"
	"sternpost/neigh"
)

// telling is that a neighbour's hardware address was told.
type telling struct{ ip, mac, at int }

// waiter is a packet that waits for a neighbour.
type waiter struct {
	to int
	p  api.Packet
}

// query is that a neighbour was asked for, so many times, the last one at that tick.
type query struct{ to, at, times int }

// slow is a cache as the words say it: lists, from which what does not hold any more is taken.
type slow struct {
	s        neigh.Setup
	own      []int
	now      int
	tellings []telling
	waiters  []waiter
	queries  []query
}

func (m *slow) move(now int) bool {
	if now < m.now || now > api.MaxTick {
		return false
	}
	m.now = now
	m.tellings = slices.DeleteFunc(m.tellings, func(x telling) bool { return now-x.at >= m.s.Age })
	return true
}

func (m *slow) known(ip int) (int, bool) {
	for _, x := range m.tellings {
		if x.ip == ip {
			return x.mac, true
		}
	}
	return 0, false
}

func (m *slow) question(to int) api.Arp {
	a := api.Arp{Op: api.ArpAsk, FromMac: m.s.Mac, ToIP: to}
	if len(m.own) > 0 {
		a.FromIP = slices.Min(m.own)
	}
	return a
}

func (m *slow) has(to int) bool {
	return slices.ContainsFunc(m.waiters, func(w waiter) bool { return w.to == to })
}

func (m *slow) send(p api.Packet, to, now int) (int, api.Arp, api.Code) {
	if !m.move(now) {
		return 0, api.Arp{}, api.ErrRange
	}
	if mac, ok := m.known(to); ok {
		return mac, api.Arp{}, api.OK
	}
	if len(m.waiters) == m.s.Waits {
		return 0, api.Arp{}, api.ErrFull
	}
	var ask api.Arp
	if !m.has(to) {
		ask = m.question(to)
		m.queries = append(m.queries, query{to, now, 1})
	}
	m.waiters = append(m.waiters, waiter{to, p})
	return 0, ask, api.ErrWait
}

// leave is what waits for a neighbour: it waits no more.
func (m *slow) leave(to int) []api.Packet {
	var out []api.Packet
	var rest []waiter
	for _, w := range m.waiters {
		if w.to == to {
			out = append(out, w.p)
		} else {
			rest = append(rest, w)
		}
	}
	m.waiters = rest
	m.queries = slices.DeleteFunc(m.queries, func(q query) bool { return q.to == to })
	return out
}

func (m *slow) learn(ip, mac int) {
	if _, known := m.known(ip); !known && len(m.tellings) == m.s.Room {
		slices.SortFunc(m.tellings, func(x, y telling) int {
			if x.at != y.at {
				return x.at - y.at
			}
			return x.ip - y.ip
		})
		m.tellings = m.tellings[1:]
	}
	m.tellings = slices.DeleteFunc(m.tellings, func(x telling) bool { return x.ip == ip })
	m.tellings = append(m.tellings, telling{ip, mac, m.now})
}

func (m *slow) take(a api.Arp, now int) (api.Arp, []api.Packet, int, api.Code) {
	if !m.move(now) {
		return api.Arp{}, nil, 0, api.ErrRange
	}
	if slices.Contains(m.own, a.FromIP) && a.FromMac != m.s.Mac {
		return api.Arp{}, nil, 0, api.ErrThere
	}
	var answer api.Arp
	if a.Op == api.ArpAsk && slices.Contains(m.own, a.ToIP) {
		answer = api.Arp{Op: api.ArpTell, FromMac: m.s.Mac, FromIP: a.ToIP, ToMac: a.FromMac, ToIP: a.FromIP}
	}
	_, known := m.known(a.FromIP)
	if a.FromIP != 0 && (known || m.has(a.FromIP) || answer.Op != 0) {
		m.learn(a.FromIP, a.FromMac)
	}
	out := m.leave(a.FromIP)
	if len(out) == 0 {
		return answer, nil, 0, api.OK
	}
	return answer, out, a.FromMac, api.OK
}

func (m *slow) tick(now int) (asks []api.Arp, lost []api.Packet, e api.Code) {
	if !m.move(now) {
		return nil, nil, api.ErrRange
	}
	slices.SortFunc(m.queries, func(x, y query) int { return x.to - y.to })
	for _, q := range slices.Clone(m.queries) {
		if now-q.at < m.s.Patience {
			continue
		}
		if q.times == 2 {
			lost = append(lost, m.leave(q.to)...)
			continue
		}
		asks = append(asks, m.question(q.to))
		m.queries[slices.Index(m.queries, q)] = query{q.to, now, 2}
	}
	return asks, lost, api.OK
}

func (m *slow) setOwn(ip int, have bool) {
	m.own = slices.DeleteFunc(m.own, func(n int) bool { return n == ip })
	if have {
		m.own = append(m.own, ip)
	}
}

// dice are numbers that look thrown, but are the same each time.
type dice uint64

func (d *dice) below(n int) int {
	*d = *d*6364136223846793005 + 1442695040888963407
	return int(uint64(*d)>>33) % n
}

// pair is a cache and its model, which must tell the same, and what became of each packet.
type pair struct {
	t    *testing.T
	d    dice
	c    *neigh.Cache
	m    *slow
	now  int
	sent int
	tale fates
}

// fates is 11.5 itself: what waits of each neighbour, in order, and what each neighbour ever told.
type fates struct {
	waits map[int][]api.Packet
	told  map[telling]int
}

// gone looks whether these packets are those that waited longest for a neighbour, and are all of them.
func (f fates) gone(t *testing.T, to int, out []api.Packet) {
	t.Helper()
	if !slices.Equal(f.waits[to], out) {
		t.Errorf("of %d came %v, and %v waited", to, out, f.waits[to])
	}
	delete(f.waits, to)
}

// oneOf is an address of a few, so that they meet; 0 is among them.
func (p *pair) oneOf() int { return p.d.below(7) }

func (p *pair) send() {
	p.t.Helper()
	p.sent++
	to, now, what := p.oneOf(), p.when(), packet(p.sent)
	mac, ask, e := p.c.Send(what, to, now)
	wantMac, wantAsk, wantE := p.m.send(what, to, now)
	if mac != wantMac || ask != wantAsk || e != wantE {
		p.t.Fatalf("Send to %d, tick %d: %d, %v, %d, want %d, %v, %d", to, now, mac, ask, e, wantMac, wantAsk, wantE)
	}
	if e == api.ErrWait {
		p.tale.waits[to] = append(p.tale.waits[to], what)
	}
	if e == api.OK && p.tale.told[telling{ip: to, mac: mac}] == 0 {
		p.t.Fatalf("%d was never told for %d", mac, to)
	}
}

func (p *pair) take() {
	p.t.Helper()
	a, now := api.Arp{Op: 1 + p.d.below(2), FromMac: p.d.below(4), FromIP: p.oneOf(), ToIP: p.oneOf()}, p.when()
	answer, out, mac, e := p.c.Take(a, now)
	wantAnswer, wantOut, wantMac, wantE := p.m.take(a, now)
	if answer != wantAnswer || !slices.Equal(out, wantOut) || mac != wantMac || e != wantE {
		p.t.Fatalf("Take %v, tick %d: %v, %v, %d, %d, want %v, %v, %d, %d", a, now, answer, out, mac, e, wantAnswer, wantOut, wantMac, wantE)
	}
	if e == api.OK {
		p.tale.told[telling{ip: a.FromIP, mac: a.FromMac}]++
		p.tale.gone(p.t, a.FromIP, out)
	}
}

func (p *pair) tick() {
	p.t.Helper()
	now := p.when()
	asks, lost, e := p.c.Tick(now)
	wantAsks, wantLost, wantE := p.m.tick(now)
	if !slices.Equal(asks, wantAsks) || !slices.Equal(lost, wantLost) || e != wantE {
		p.t.Fatalf("Tick %d: %v, %v, %d, want %v, %v, %d", now, asks, lost, e, wantAsks, wantLost, wantE)
	}
	for to := range 7 {
		if n := len(p.tale.waits[to]); n > 0 && n <= len(lost) && slices.Equal(lost[:n], p.tale.waits[to]) {
			p.tale.gone(p.t, to, lost[:n])
			lost = lost[n:]
		}
	}
	if len(lost) > 0 {
		p.t.Fatalf("%v was lost, and did not wait", lost)
	}
}

// when is the next tick, or, now and then, one that is refused.
func (p *pair) when() int {
	if p.d.below(20) == 0 {
		return p.now - 1
	}
	p.now += p.d.below(4) / 2
	return p.now
}

func (p *pair) own() {
	p.t.Helper()
	ip, have := p.oneOf(), p.d.below(3) == 0
	own(p.t, p.c, ip, have)
	p.m.setOwn(ip, have)
	want := slices.Sorted(slices.Values(p.m.own))
	has(p.t, p.c, want...)
}

// look holds what is known now, and how long it will be, against the model.
func (p *pair) look() {
	p.t.Helper()
	for ip := range 7 {
		mac, ok := p.c.Look(ip, p.m.now)
		if wantMac, wantOk := p.m.known(ip); mac != wantMac || ok != wantOk {
			p.t.Fatalf("Look %d, tick %d: %d, %v, want %d, %v", ip, p.m.now, mac, ok, wantMac, wantOk)
		}
	}
	for _, x := range p.m.tellings {
		knows(p.t, p.c, x.ip, x.at+p.m.s.Age-1, x.mac)
		stranger(p.t, p.c, x.ip, x.at+p.m.s.Age)
	}
}

// 11.1 to 11.5: many calls of all kinds, at caches of many kinds.
func TestManyCalls(t *testing.T) {
	for seed := range 300 {
		d := dice(seed)
		s := neigh.Setup{Mac: 2, Age: 1 + d.below(15), Patience: 1 + d.below(5), Room: 1 + d.below(4), Waits: 1 + d.below(8)}
		p := &pair{t: t, d: d, c: made(t, s, 1, 2), m: &slow{s: s, own: []int{1, 2}}}
		p.tale = fates{map[int][]api.Packet{}, map[telling]int{}}
		for range 400 {
			switch n := p.d.below(20); {
			case n < 9:
				p.send()
			case n < 15:
				p.take()
			case n < 19:
				p.tick()
			default:
				p.own()
			}
			p.look()
		}
		if t.Failed() {
			t.Fatalf("seed %d", seed)
		}
	}
}

// 11.5: what waits comes out once, or is lost once, and in order, whoever tells, asks or claims meanwhile.
func TestOnce(t *testing.T) {
	c := made(t, neigh.Setup{Mac: 2, Age: 20, Patience: 4, Room: 1, Waits: 9}, 10)
	for i := range 6 {
		c.Send(packet(i), 11+i%2, i/3)
	}
	takes(t, c, says(7, 13), 1)
	takes(t, c, says(2, 10), 1)
	takeRefused(t, c, says(7, 10), 1, api.ErrThere)
	takes(t, c, says(7, 11), 2, 0, 2, 4)
	takes(t, c, says(8, 11), 2)
	knows(t, c, 11, 2, 8)
	ticks(t, c, 4, questions(10, 12))
	ticks(t, c, 8, nil, 1, 3, 5)
	takes(t, c, says(7, 12), 8)
	ticks(t, c, 40, nil)
	takes(t, c, says(8, 11), 40)
	stranger(t, c, 11, 40)
}
