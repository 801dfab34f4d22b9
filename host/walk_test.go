package host_test

import (
	"slices"
	"strconv"
	"strings"
	"testing"

	"sternpost/api"
	"sternpost/conn"
	"sternpost/host"
	"sternpost/ip"
	"sternpost/neigh"
	"sternpost/table"
)

// dice are numbers that look as if they were thrown, and are the same each time.
type dice uint64

func (d *dice) upTo(n int) int {
	*d = *d*6364136223846793005 + 1442695040888963407
	return int(uint64(*d)>>33) % (n + 1)
}

func (d *dice) of(l ...int) int { return l[d.upTo(len(l)-1)] }

// mostly is one of a list or, now and then, of those that are refused.
func (d *dice) mostly(refused []int, l ...int) int {
	if d.upTo(39) == 0 {
		return d.of(refused...)
	}
	return d.of(l...)
}

// line is a line that a client may write.
func (d *dice) line() string {
	names := []string{"a", "b", "c"}
	name := names[d.upTo(2)]
	switch n := d.upTo(99); {
	case n < 25:
		return "PUT " + name + " " + strings.Repeat("v", d.upTo(30)) + "\n"
	case n < 50:
		return "GET " + name + "\n"
	case n < 65:
		return "ADD " + name + " " + strconv.Itoa(d.upTo(2000)-1000) + "\n"
	case n < 75:
		return "APP " + name + " xyz\n"
	case n < 85:
		return "LIST\n"
	case n < 90:
		return "DEL " + name + "\n"
	case n < 98:
		return "no line\n"
	}
	return "QUIT\n"
}

// walk is two hosts, each with the slow one beside it, and what is on its way between them. The first one has a server.
type walk struct {
	*dice
	t      *testing.T
	hosts  [2]*both
	things []thing // and the hosts from which they came
	now    int
	tag    int
	lost   int
	calm   bool // few sockets are closed
}

func newWalk(t *testing.T, d *dice, came map[string]int) *walk {
	k := &walk{dice: d, t: t, lost: d.of(0, 5, 30), calm: d.upTo(2) > 0}
	for i := range k.hosts {
		s := host.Setup{
			Mac: hereMac - i, IP: here - i, Port: d.of(port, port, 0),
			Neigh: neigh.Setup{Mac: hereMac - i, Age: d.of(1+d.upTo(20), 200, 2000), Patience: 1 + d.upTo(6), Room: 1 + d.upTo(3), Waits: 1 + d.upTo(20)},
			Room:  1 + d.upTo(4), Patience: 1 + d.upTo(20),
			Table: table.Setup{
				Conn: conn.Setup{MSS: 1 + d.upTo(100), Room: 1 + d.upTo(300), Delay: d.upTo(3), First: 8, Least: 4, Most: 40, Tries: d.upTo(4), Linger: 1 + d.upTo(20)},
				Key:  d.of(0, 7), Backlog: 1 + d.upTo(3), Room: 1 + d.upTo(14),
			},
		}
		if i == 0 {
			s.Port = port
		}
		if d.upTo(9) == 0 {
			s.Table.Room, s.Table.Backlog = 256, 9
		}
		k.hosts[i] = bothOf(t, s, came)
	}
	switch k.upTo(7) {
	case 0:
		for i := range 61 + k.upTo(2) {
			k.hosts[0].asks(api.Request{Kind: api.SListen, Port: 100 + i}, 0)
		}
	case 1:
		k.hosts[0].asks(api.Request{Kind: api.SListen, Port: 81}, 0)
		for range 60 + k.upTo(3) {
			k.hosts[0].asks(api.Request{Kind: api.SAccept, FD: 1}, 0)
		}
	}
	return k
}

func (k *walk) send(from int, out []string) {
	for _, s := range out {
		k.things = append(k.things, thing{from, s})
	}
	if len(k.things) > 80 {
		k.things = k.things[40:]
	}
}

// tick is the tick or, now and then, another number.
func (k *walk) tick() int {
	if k.upTo(199) == 0 {
		return k.of(append([]int{k.now - 1, k.now - 9}, noTicks...)...)
	}
	return k.now
}

// arrives takes a thing from those on their way: it may be lost, come late, or twice, or be spoilt.
func (k *walk) arrives() {
	k.t.Helper()
	if len(k.things) == 0 {
		return
	}
	i := 0
	if k.upTo(4) == 0 {
		i = k.upTo(len(k.things) - 1)
	}
	x := k.things[i]
	if k.upTo(9) > 0 {
		k.things = slices.Delete(k.things, i, i+1)
	}
	if k.upTo(99) < k.lost {
		return
	}
	if k.upTo(39) == 0 {
		x.frame = spoilt(x.frame, k.upTo(len(x.frame)-1))
	}
	k.send(1-x.from, k.hosts[1-x.from].hears(x.frame, k.tick()))
}

// strange is a packet of some kind, that comes in pieces or whole.
func (k *walk) strange(to int) {
	data := strings.Repeat("0123456789", k.upTo(8))
	p := api.Packet{From: k.of(10, 11, 12, 0), To: k.of(here-to, here-to, 99, mostIP, 50), TTL: 9, Proto: k.of(1, 1, 6, 17), Ident: k.upTo(2), Data: data}
	if p.Proto == api.ProtoIcmp && k.upTo(3) > 0 {
		p.Data = icmpOf(api.Icmp{Type: k.of(0, 0, 8, 8, 3), Code: k.of(0, 0, 0, 1), A: k.now % 100, Data: data})
	}
	if p.Proto == api.ProtoIcmp && k.upTo(4) == 0 {
		p.Data = icmpOf(api.Icmp{Type: 8, Data: strings.Repeat("0123456789", 160)})
	}
	l, e := ip.Pieces(p, k.of(36, 60, 1500))
	if e != api.OK {
		k.t.Fatal(e)
	}
	for _, q := range l {
		if k.upTo(5) > 0 {
			f := packetOf(thereMac+7, k.of(hereMac-to, hereMac-to, api.Everyone, hereMac+9), q)
			k.things = slices.Insert(k.things, k.upTo(len(k.things)), thing{1 - to, f})
		}
	}
}

// neighbour is an ARP packet of somebody.
func (k *walk) neighbour(to int) {
	a := api.Arp{Op: k.of(1, 2), FromMac: k.of(20, 21, 13-to), FromIP: k.of(12, 12, 99, 99, 0, 50, k.of(10, 11, 12)), ToMac: k.of(0, 12), ToIP: k.of(10, 11, 99, 50)}
	k.things = append(k.things, thing{1 - to, arpOf(20, k.of(hereMac-to, api.Everyone), a)})
}

// kind is thrown so that things are asked more often than they are ended.
func (k *walk) kind() int {
	n := k.upTo(99)
	if k.calm && n >= 73 && n < 94 && k.upTo(29) > 0 {
		n = k.of(30, 60)
	}
	for kind, to := range []int{1, 4, 10, 25, 42, 73, 76, 90, 94, 100} {
		if n < to {
			return kind
		}
	}
	return 0
}

func (k *walk) request() api.Request {
	k.tag++
	r := api.Request{Tag: k.mostly([]int{-1, firstTag, firstTag + 1, firstTag + 2}, k.tag), Kind: k.kind()}
	r.FD = k.of(0, 0, 1, 2, 3, k.upTo(9))
	switch r.Kind {
	case api.SListen:
		r.Port = k.of(port, 81, 82)
	case api.SConnect:
		r.IP, r.Port = k.of(here, here, there, 12), k.of(port, port, port, 81)
	case api.SRead:
		r.N = k.of(1, 5, 99)
	case api.SWrite:
		for range k.of(1, 1, 2, 9) {
			r.Data += k.line()
		}
		r.Data = r.Data[:len(r.Data)-k.of(0, 0, 1, 2)]
	}
	return r
}

// step is one thing that comes to pass.
func (k *walk) step() {
	k.t.Helper()
	i := k.upTo(1)
	b := k.hosts[i]
	switch n := k.upTo(199); {
	case n < 110:
		k.arrives()
	case n < 140:
		k.now += k.of(0, 1, 1, 2, 5, 20)
		for i, b := range k.hosts {
			k.send(i, b.ticks(k.tick()))
		}
	case n < 180:
		if k.calm {
			i, b = 1, k.hosts[1]
		}
		k.send(i, b.asks(k.request(), k.tick()))
	case n < 184:
		k.strange(i)
	case n < 187:
		k.neighbour(i)
	case n < 189:
		b.owns(k.mostly(noIPs, 99, 50, here-i), k.upTo(1) == 0)
	default:
		k.send(i, b.pings(k.mostly(noIPs, here, there, 12, 99), k.mostly(noPairs, 1, 2), k.mostly(noPairs, 3), k.tick()))
	}
}

// 22.1 to 22.4: many calls of all kinds, at two hosts that hear of each other over a road that loses, doubles, spoils and changes the order.
func TestWalks(t *testing.T) {
	d, came := dice(22), map[string]int{}
	for range 500 {
		k := newWalk(t, &d, came)
		for range 2000 {
			k.step()
		}
	}
	for _, x := range []string{"no tick", "no frame, or for others", "wrong", "wrong within", "claimed", "asked for", "waited", "to others", "pieces that do not fit",
		"put together", "echoed", "echo", "may not be told", "told d", "told l", "cut", "too many wait", "let in", "port closed", "no room to let in",
		"session refused", "answered", "session over", "asked again", "lost", "no tag", "no ping", "its own"} {
		if came[x] < 50 {
			t.Errorf("%s: came %d times", x, came[x])
		}
	}
}
