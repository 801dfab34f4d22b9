package table_test

import (
	"strconv"
	"strings"
	"testing"

	"sternpost/api"
)

// owner has one side of a connection, writes a text there, and reads what the other side's owner writes.
type owner struct {
	side
	ip, number int
	text, heap string
	written    int
	closed     bool
	ended      api.Code
}

// acts is what an owner does at a tick.
func (o *owner) acts(d *dice, now int) (out []api.Out) {
	if o.written < len(o.text) && d.upTo(1) == 0 {
		n, l, e := o.x.Write(o.number, o.text[o.written:min(len(o.text), o.written+1+d.upTo(50))], now)
		if e != api.OK && e != api.ErrFull {
			o.t.Fatalf("Write(%d): %d", o.number, e)
		}
		o.written += n
		out = append(out, l...)
	}
	if o.written == len(o.text) && !o.closed && d.upTo(9) == 0 && !o.begins() {
		l, e := o.x.Close(o.number, now)
		if e != api.OK {
			o.t.Fatalf("Close(%d): %d", o.number, e)
		}
		o.closed = true
		out = append(out, l...)
	}
	if o.ended == api.OK && d.upTo(1) == 0 {
		data, l, e := o.x.Read(o.number, 1+d.upTo(60), now)
		o.heap += data
		o.ended = e
		out = append(out, l...)
	}
	return out
}

// begins tells whether the other side has not answered so far.
func (o *owner) begins() bool {
	state, _, _ := o.x.State(o.number)
	return state == api.SynSent
}

func (o *owner) over() bool {
	state, _, _ := o.x.State(o.number)
	return o.closed && o.ended != api.OK && (state == api.Closed || state == api.TimeWait)
}

// crowd is two tables with many connections between them, and the road.
type crowd struct {
	*dice
	t            *testing.T
	tables       map[int]side
	owners       []*owner
	things       map[int][]thing // by the ticks at which they come
	now, roughTo int
	lost, twice  int
}

func newCrowd(t *testing.T, d *dice) *crowd {
	k := &crowd{dice: d, t: t, tables: map[int]side{}, things: map[int][]thing{}, roughTo: d.upTo(1500), lost: d.of([]int{0, 10, 30}), twice: d.of([]int{0, 20})}
	s := set
	s.Backlog, s.Room = 64, 64
	s.Conn.Tries, s.Conn.Linger = 32, 1<<14
	for _, ip := range []int{here, there} {
		k.tables[ip] = made(t, s, ip)
		for _, port := range []int{80, 81, firstOwn} {
			k.tables[ip].listen(port, api.OK)
		}
	}
	return k
}

func (k *crowd) send(from int, out []api.Out) {
	for _, o := range out {
		n, rough := 1, k.now < k.roughTo
		if rough && k.upTo(99) < k.lost {
			n = 0
		}
		if rough && k.upTo(99) < k.twice {
			n++
		}
		for range n {
			at := k.now + 1
			if rough {
				at += k.upTo(9)
			}
			k.things[at] = append(k.things[at], thing{from, o.To, o.S})
		}
	}
}

// owns begins what an owner has to say: which side of which connection it is, and some more.
func (k *crowd) owns(ip, number int) {
	k.t.Helper()
	b := k.tables[ip]
	ends, ok := b.x.Ends(number)
	if !ok {
		k.t.Fatalf("Ends(%d): none", number)
	}
	k.owners = append(k.owners, &owner{side: b, ip: ip, number: number, text: strings.Repeat(name(ends), 1+k.upTo(20))})
}

func name(e api.Ends) string {
	return strconv.Itoa(e.IP) + ":" + strconv.Itoa(e.Port) + " to " + strconv.Itoa(e.FarIP) + ":" + strconv.Itoa(e.FarPort) + "; "
}

// begins opens a connection, at one side or the other.
func (k *crowd) begins() {
	k.t.Helper()
	ip := k.of([]int{here, there})
	number, out, e := k.tables[ip].x.Connect(here+there-ip, k.of([]int{80, 81, firstOwn}), k.now)
	if e != api.OK {
		k.t.Fatalf("Connect: %d", e)
	}
	k.owns(ip, number)
	k.send(ip, out)
}

// step is one tick.
func (k *crowd) step() {
	k.t.Helper()
	k.now++
	for _, x := range k.things[k.now] {
		_, out := k.tables[x.to].x.Take(x.from, x.s, k.now)
		k.send(x.to, out)
	}
	delete(k.things, k.now)
	for _, ip := range []int{here, there} {
		k.send(ip, k.tables[ip].x.Tick(k.now))
		for _, port := range []int{80, 81, firstOwn} {
			if number, ok := k.tables[ip].x.Accept(port); ok {
				k.owns(ip, number)
			}
		}
	}
	for _, o := range k.owners {
		k.send(o.ip, o.acts(k.dice, k.now))
	}
}

func (k *crowd) over() bool {
	for _, o := range k.owners {
		if !o.over() {
			return false
		}
	}
	return true
}

// 19.6: of many connections between the same two addresses, what an owner reads is what the one at the other end wrote.
func TestCrowds(t *testing.T) {
	d := dice(6)
	for range 20 {
		k := newCrowd(t, &d)
		const pairs = 25
		for i := 0; i < pairs || !k.over() || len(k.owners) < 2*pairs; {
			if i < pairs && d.upTo(9) == 0 {
				k.begins()
				i++
			}
			k.step()
			if k.now > 1<<14 {
				t.Fatalf("no end: %d owners", len(k.owners))
			}
		}
		if len(k.owners) != 2*pairs {
			t.Errorf("%d owners", len(k.owners))
		}
		k.looks()
		for _, ip := range []int{here, there} {
			k.tables[ip].tick(1 << 20)
			k.tables[ip].empty()
		}
	}
}

// looks looks at what all owners have read, and drops their connections.
func (k *crowd) looks() {
	k.t.Helper()
	texts := map[api.Ends]string{}
	for _, o := range k.owners {
		ends, _ := o.x.Ends(o.number)
		texts[ends] = o.text
	}
	if len(texts) != len(k.owners) {
		k.t.Fatalf("%d owners, but %d ends", len(k.owners), len(texts))
	}
	for _, o := range k.owners {
		ends, _ := o.x.Ends(o.number)
		want := texts[api.Ends{IP: ends.FarIP, Port: ends.FarPort, FarIP: ends.IP, FarPort: ends.Port}]
		if o.ended != api.ErrEnd || o.heap != want {
			k.t.Fatalf("%+v read %q, %d, want %q", ends, o.heap, o.ended, want)
		}
		o.drop(o.number, api.OK)
	}
}
