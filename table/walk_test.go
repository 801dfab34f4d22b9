package table_test

import (
	"testing"

	"sternpost/api"
	"sternpost/conn"
	"sternpost/table"
)

// dice are numbers that look as if they were thrown, and are the same each time.
type dice uint64

func (d *dice) upTo(n int) int {
	*d = *d*6364136223846793005 + 1442695040888963407
	return int(uint64(*d)>>33) % (n + 1)
}

func (d *dice) of(l []int) int { return l[d.upTo(len(l)-1)] }

// mostly is one of a list or, now and then, of those that are refused.
func (d *dice) mostly(l, refused []int) int {
	if d.upTo(29) == 0 {
		return d.of(refused)
	}
	return d.of(l)
}

// thing is a segment on its way.
type thing struct {
	from, to int
	s        api.Segment
}

// walk is two tables, what is on its way between them, and how their calls are thrown.
type walk struct {
	*dice
	t      *testing.T
	tables map[int]*both // by their addresses
	things []thing
	now    int
	lost   int
	ports  []int
}

func newWalk(t *testing.T, d *dice, came map[string]int) *walk {
	k := &walk{dice: d, t: t, tables: map[int]*both{}, lost: d.of([]int{0, 10, 40}), ports: []int{firstOwn, 80, 81, firstOwn + 1}[:1+d.upTo(3)]}
	for _, ip := range []int{here, there} {
		c := conn.Setup{MSS: 1 + d.upTo(30), Room: 1 + d.upTo(80), Delay: d.upTo(3), First: 8, Least: 4, Most: 40, Tries: d.upTo(3), Linger: 1 + d.upTo(20)}
		s := table.Setup{Conn: c, Key: d.of([]int{0, 7, word}), Backlog: 1 + d.upTo(3), Room: 1 + d.upTo(8)}
		k.tables[ip] = bothOf(t, s, ip, came)
	}
	return k
}

func (k *walk) send(from int, out []api.Out) {
	for _, o := range out {
		k.things = append(k.things, thing{from, o.To, o.S})
	}
	if len(k.things) > 60 {
		k.things = k.things[30:]
	}
}

// arrives takes a thing from those on their way: it may be lost, come late, or come twice.
func (k *walk) arrives() {
	k.t.Helper()
	if len(k.things) == 0 {
		return
	}
	i := k.upTo(len(k.things) - 1)
	if k.upTo(2) > 0 {
		i = 0
	}
	x := k.things[i]
	if k.upTo(9) > 0 {
		k.things = append(k.things[:i:i], k.things[i+1:]...)
	}
	if b := k.tables[x.to]; b != nil && k.upTo(99) >= k.lost {
		k.send(x.to, b.take(x.from, x.s, k.tick()))
	}
}

// tick is the tick or, now and then, another number.
func (k *walk) tick() int {
	if k.upTo(199) == 0 {
		return k.of([]int{-1, k.now - 1, k.now - 9, k.now + 1})
	}
	return k.now
}

// number is one that was given, or will be, or none.
func (k *walk) number(b *both) int {
	if l := b.m.there(); len(l) > 0 && k.upTo(4) > 0 {
		return l[k.upTo(len(l)-1)].number
	}
	if k.upTo(9) == 0 {
		return k.of(noNumbers[:2])
	}
	return k.upTo(len(b.m.all) + 1)
}

// odd is a segment that nobody sent, nearly as one of those on their way.
func (k *walk) odd() api.Segment {
	s := api.Segment{From: k.of(k.ports), To: k.of(k.ports), Seq: k.upTo(9), Window: k.upTo(60)}
	if len(k.things) > 0 && k.upTo(2) > 0 {
		s = k.things[k.upTo(len(k.things)-1)].s
	}
	switch k.upTo(5) {
	case 0:
		s.Flags = k.upTo(63)
	case 1:
		s.Flags = k.of([]int{api.SYN, api.RST, api.SYN | api.PSH, api.FIN, api.SYN | api.FIN})
	case 2:
		s.From = k.mostly(k.ports, noPorts)
	case 3:
		s.Flags |= api.RST
	case 4:
		s.Seq = (s.Seq + 1 + k.upTo(40)) & word
	}
	if s.Flags&api.ACK == 0 {
		s.Ack = 0
	}
	return s
}

// step is one thing that comes to pass.
func (k *walk) step() {
	k.t.Helper()
	ip := k.of([]int{here, there})
	b := k.tables[ip]
	switch n := k.upTo(99); {
	case n < 45:
		k.arrives()
	case n < 55:
		k.now += k.of([]int{0, 1, 1, 2, 5, 20})
		for _, ip := range []int{here, there} {
			k.send(ip, k.tables[ip].tick(k.tick()))
		}
	case n < 60:
		b.listen(k.mostly(k.ports, noPorts))
	case n < 61:
		b.silence(k.mostly(k.ports, noPorts))
	case n < 66:
		k.send(ip, b.connect(k.mostly([]int{here, there, here, there, yon}, noWords), k.mostly(k.ports, noPorts), k.mostly([]int{k.now}, noTicks)))
	case n < 72:
		b.accept(k.mostly(k.ports, noPorts))
	case n < 80:
		_, out := b.write(k.number(b), "abcdefghijklmnopqrstuvwxyz"[:k.upTo(26)], k.tick())
		k.send(ip, out)
	case n < 88:
		_, out, _ := b.read(k.number(b), k.of([]int{-1, 0, 1, 5, 99}), k.tick())
		k.send(ip, out)
	case n < 92:
		k.send(ip, b.close(k.number(b), k.tick()))
	case n < 93:
		k.send(ip, b.abort(k.number(b)))
	case n < 97:
		b.drop(k.number(b))
	default:
		k.send(ip, b.take(k.mostly([]int{here, there, yon}, noWords), k.odd(), k.tick()))
	}
}

// 19.1 to 19.6: many calls of all kinds, at two tables that hear of each other over a road that loses, doubles and changes the order.
func TestWalks(t *testing.T) {
	d, came := dice(19), map[string]int{}
	for range 400 {
		k := newWalk(t, &d, came)
		for range 800 {
			k.step()
		}
		k.tables[here].whole()
		k.tables[there].whole()
	}
	for _, x := range []string{"Listen", "Listen fails", "Silence", "Silence fails", "Silence of some", "Connect", "Connect fails", "Connect full",
		"no room", "reset", "comes in", "gone by Take", "gone by Tick", "Accept of a later one", "Accept of none that waits", "Write", "Write fails",
		"Read", "Read fails", "Close", "Close fails", "Abort", "Abort fails", "Drop", "Drop fails", "goes on unheld"} {
		if came[x] < 20 {
			t.Errorf("%s: came %d times", x, came[x])
		}
	}
}
