package sock_test

import (
	"testing"

	"sternpost/api"
	"sternpost/conn"
	"sternpost/table"
)

// dice are numbers that look as if they were thrown, and are the same each time.
type dice uint64

func (d *dice) upTo(n int) int {
	*d = *d*6364136223846793005 + 1442695040888963407
	return int(uint64(*d)>>33) % (n + 1)
}

func (d *dice) of(l ...int) int { return l[d.upTo(len(l)-1)] }

// mostly is one of a list or, now and then, of those that are refused.
func (d *dice) mostly(refused []int, l ...int) int {
	if d.upTo(39) == 0 {
		return d.of(refused...)
	}
	return d.of(l...)
}

// thing is a segment on its way.
type thing struct {
	from, to int
	s        api.Segment
}

// walk is two boxes, what is on its way between them, and how their calls are thrown.
type walk struct {
	*dice
	t      *testing.T
	boxes  map[int]*both // by their addresses
	things []thing
	now    int
	tag    int
	lost   int
	ports  int  // that may listen: the first ones
	calm   bool // nothing is closed, as a rule
}

func newWalk(t *testing.T, d *dice, came map[string]int) *walk {
	k := &walk{dice: d, t: t, boxes: map[int]*both{}, lost: d.of(0, 5, 40), ports: d.of(1, 2, 3, 90), calm: d.upTo(2) == 0}
	for _, ip := range []int{here, there} {
		c := conn.Setup{MSS: 1 + d.upTo(30), Room: 1 + d.upTo(60), Delay: d.upTo(3), First: 8, Least: 4, Most: 40, Tries: d.upTo(3), Linger: 1 + d.upTo(20)}
		k.boxes[ip] = bothOf(t, table.Setup{Conn: c, Key: d.of(0, 7, word), Backlog: 1 + d.upTo(3), Room: 1 + d.upTo(8)}, ip, came)
	}
	return k
}

func (k *walk) send(from int, out []api.Out) {
	for _, o := range out {
		k.things = append(k.things, thing{from, o.To, o.S})
	}
	if len(k.things) > 60 {
		k.things = k.things[30:]
	}
}

// tick is the tick or, now and then, another number.
func (k *walk) tick() int {
	if k.upTo(199) == 0 {
		return k.of(append([]int{k.now - 1, k.now - 9, k.now + 1}, noTicks[:2]...)...)
	}
	return k.now
}

// arrives takes a thing from those on their way: it may be lost, come late, or come twice.
func (k *walk) arrives() {
	k.t.Helper()
	if len(k.things) == 0 {
		return
	}
	i := 0
	if k.upTo(4) == 0 {
		i = k.upTo(len(k.things) - 1)
	}
	x := k.things[i]
	if k.upTo(9) > 0 {
		k.things = append(k.things[:i:i], k.things[i+1:]...)
	}
	if b := k.boxes[x.to]; b != nil && k.upTo(99) >= k.lost {
		k.send(x.to, b.take(x.from, x.s, k.tick()))
	}
}

// fd is a socket of some kind or, now and then, none.
func (k *walk) fd(b *both, listens bool) int {
	var l []int
	for _, s := range b.m.entries {
		if (s.number == 0) == listens {
			l = append(l, s.fd)
		}
	}
	if len(l) == 0 || k.upTo(29) == 0 {
		return k.mostly(noFDs, 0, 1, 2, 3, 4, most-1)
	}
	return k.of(l...)
}

// kind is thrown so that things are asked more often than they are ended.
func (k *walk) kind() int {
	n := k.upTo(99)
	if k.calm && n >= 73 && n < 94 && k.upTo(9) > 0 {
		n = k.of(30, 60)
	}
	for kind, to := range []int{1, 8, 22, 32, 52, 73, 78, 90, 94, 100} {
		if n < to {
			return kind
		}
	}
	return 0
}

func (k *walk) request(b *both) api.Request {
	k.tag++
	r := api.Request{Tag: k.tag, Kind: k.kind()}
	switch r.Kind {
	case 0:
		r.Kind = k.of(noKinds...)
	case api.SListen:
		r.Port = k.mostly(noPorts, 80+k.upTo(k.ports-1))
	case api.SConnect:
		r.IP, r.Port = k.mostly(noWords, here, there), k.mostly(noPorts, 80, 80+k.upTo(k.ports-1))
	case api.SAccept:
		r.FD = k.fd(b, true)
	default:
		r.FD = k.fd(b, k.upTo(29) == 0)
	}
	switch r.Kind {
	case api.SRead:
		r.N = k.mostly([]int{0, -1}, 1, 5, 99)
	case api.SWrite:
		r.Data = "abcdefghijklmnopqrstuvwxyzabcdefghijklmnopqrstuvwxyzabcdefghijklmnopqrstuvwxyz"[:k.of(0, 1, 5, k.upTo(78))]
	}
	return r
}

// step is one thing that comes to pass.
func (k *walk) step() {
	k.t.Helper()
	ip := k.of(here, there)
	b := k.boxes[ip]
	switch n := k.upTo(99); {
	case n < 45:
		k.arrives()
	case n < 55:
		k.now += k.of(0, 1, 1, 2, 5, 20)
		for _, ip := range []int{here, there} {
			k.send(ip, k.boxes[ip].tick(k.tick()))
		}
	case n < 56 && len(k.things) > 0:
		x := k.things[k.upTo(len(k.things)-1)]
		x.s.Flags ^= k.of(api.RST, api.FIN, api.SYN, 64)
		k.send(x.to, k.boxes[ip].take(k.mostly(noWords, x.from), x.s, k.tick()))
	default:
		k.send(ip, b.ask(k.request(b), k.tick()))
	}
}

// 20.1 to 20.4: many calls of all kinds, at two boxes that hear of each other over a road that loses, doubles and changes the order.
func TestWalks(t *testing.T) {
	d, came := dice(20), map[string]int{}
	for range 500 {
		k := newWalk(t, &d, came)
		for range 800 {
			k.step()
		}
	}
	for _, x := range []string{"listen at once", "listen fails", "accept at once", "accept late", "accept fails", "accept fails late", "connect late", "connect fails",
		"connect fails late", "read at once", "read late", "read fails", "read fails late", "write at once", "write late", "write fails", "write fails late",
		"write fails in the midst", "shut at once", "shut fails", "close at once", "close fails", "abort at once", "abort fails", "stat at once", "stat fails",
		"too many", "full", "looked at again"} {
		if came[x] < 20 {
			t.Errorf("%s: came %d times", x, came[x])
		}
	}
}
