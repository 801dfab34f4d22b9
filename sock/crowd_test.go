package sock_test

import (
	"strconv"
	"strings"
	"testing"

	"sternpost/api"
)

// talk is what goes over one connection, as one side sees it: what it writes, and what it has read.
type talk struct {
	pieces []string
	wrote  int // how many of the pieces
	heap   string
	closed bool
}

// told is what a request of a box came to.
type told struct {
	ip int
	r  api.Request
	d  api.Done
}

// crowd is a box of clients, one that sends back what it has read once that is all, and the road between them.
type crowd struct {
	*dice
	t            *testing.T
	boxes        map[int]side
	things       map[int][]thing // by the ticks at which they come
	now, roughTo int
	tag          int
	asked        map[int]api.Request // what waits, by tags
	last         map[[3]int]int      // the last tag that was done, of each box, socket, and kind
	news         []told
	begun        map[int]*talk    // by the tags of what connects
	talks        map[[2]int]*talk // by their boxes and sockets
}

func newCrowd(t *testing.T, d *dice) *crowd {
	k := &crowd{dice: d, t: t, boxes: map[int]side{}, things: map[int][]thing{}, roughTo: d.upTo(1500), asked: map[int]api.Request{},
		last: map[[3]int]int{}, begun: map[int]*talk{}, talks: map[[2]int]*talk{}}
	s := set
	s.Backlog, s.Room = 64, 64
	s.Conn.Tries, s.Conn.Linger = 32, 1<<10
	for _, ip := range []int{here, there} {
		k.boxes[ip] = madeAt(t, s, ip)
	}
	k.asks(here, api.Request{Kind: api.SListen, Port: 80})
	k.asks(here, of(0, api.SAccept, 0))
	k.asks(here, of(0, api.SAccept, 0))
	return k
}

func (k *crowd) send(from int, out []api.Out) {
	for _, o := range out {
		n, rough := 1, k.now < k.roughTo
		if rough {
			n = k.of(0, 1, 1, 1, 1, 2)
		}
		for range n {
			at := k.now + 1
			if rough {
				at += k.upTo(9)
			}
			k.things[at] = append(k.things[at], thing{from, o.To, o.S})
		}
	}
}

// asks asks under a new tag, and tells that.
func (k *crowd) asks(ip int, r api.Request) int {
	k.t.Helper()
	k.tag++
	r.Tag = k.tag
	k.asked[r.Tag] = r
	done, out := k.boxes[ip].x.Ask(r, k.now)
	k.hears(ip, done, out)
	return r.Tag
}

// hears looks whether each request is done once, and those of a socket that read, or write, in their order.
func (k *crowd) hears(ip int, done []api.Done, out []api.Out) {
	k.t.Helper()
	k.send(ip, out)
	for _, d := range done {
		r, ok := k.asked[d.Tag]
		if !ok {
			k.t.Fatalf("%+v: it is done already, or was not asked", d)
		}
		delete(k.asked, d.Tag)
		if r.Kind == api.SRead || r.Kind == api.SWrite {
			key := [3]int{ip, r.FD, r.Kind}
			if k.last[key] > d.Tag {
				k.t.Fatalf("%+v is done behind %d", d, k.last[key])
			}
			k.last[key] = d.Tag
		}
		k.news = append(k.news, told{ip, r, d})
	}
}

// goesOn asks more, by what was told.
func (k *crowd) goesOn() {
	k.t.Helper()
	for len(k.news) > 0 {
		n := k.news[0]
		k.news = k.news[1:]
		at := [2]int{n.ip, n.r.FD}
		switch {
		case n.d.Code != api.OK && n.d.Code != api.ErrEnd:
			k.t.Fatalf("%+v", n)
		case n.r.Kind == api.SConnect:
			k.talks[[2]int{n.ip, n.d.FD}] = k.begun[n.r.Tag]
			k.reads(n.ip, n.d.FD)
			k.writes(n.ip, n.d.FD)
		case n.r.Kind == api.SAccept:
			k.talks[[2]int{n.ip, n.d.FD}] = &talk{}
			k.reads(n.ip, n.d.FD)
			k.asks(here, of(0, api.SAccept, 0))
		case n.r.Kind == api.SRead:
			k.talks[at].heap += n.d.Data
			k.hasRead(n.ip, n.r.FD, n.d.Code)
		case n.r.Kind == api.SWrite:
			k.hasWritten(n.ip, n.r.FD)
		}
	}
}

// reads asks for three reads at a time.
func (k *crowd) reads(ip, fd int) {
	k.t.Helper()
	for range 3 {
		k.asks(ip, read(0, fd, 1+k.upTo(40)))
	}
}

// writes asks for all writes at once.
func (k *crowd) writes(ip, fd int) {
	k.t.Helper()
	for _, s := range k.talks[[2]int{ip, fd}].pieces {
		k.asks(ip, write(0, fd, s))
	}
}

// hasRead reads on; once all is read the server sends it back, and the client is done.
func (k *crowd) hasRead(ip, fd int, e api.Code) {
	k.t.Helper()
	x := k.talks[[2]int{ip, fd}]
	switch {
	case e == api.OK:
		k.asks(ip, read(0, fd, 1+k.upTo(40)))
	case x.closed:
	case ip == there:
		x.closed = true
		k.asks(ip, of(0, api.SClose, fd))
	case x.pieces == nil:
		n := 1 + k.upTo(len(x.heap)-2)
		x.pieces = []string{x.heap[:n], x.heap[n:]}
		k.writes(ip, fd)
	}
}

// hasWritten says that no more is written: the server is done by that.
func (k *crowd) hasWritten(ip, fd int) {
	k.t.Helper()
	x := k.talks[[2]int{ip, fd}]
	x.wrote++
	switch {
	case x.wrote < len(x.pieces):
	case ip == there:
		k.asks(ip, of(0, api.SShut, fd))
	default:
		x.closed = true
		k.asks(ip, of(0, api.SClose, fd))
	}
}

// begins opens a connection, with something to say.
func (k *crowd) begins(name int) {
	k.t.Helper()
	x := &talk{}
	for i := range 1 + k.upTo(4) {
		x.pieces = append(x.pieces, strings.Repeat("talk "+strconv.Itoa(name)+", piece "+strconv.Itoa(i)+"; ", 1+k.upTo(9)))
	}
	k.begun[k.asks(there, api.Request{Kind: api.SConnect, IP: here, Port: 80})] = x
}

// step is one tick.
func (k *crowd) step() {
	k.t.Helper()
	k.now++
	for _, x := range k.things[k.now] {
		done, out := k.boxes[x.to].x.Take(x.from, x.s, k.now)
		k.hears(x.to, done, out)
		k.goesOn()
	}
	delete(k.things, k.now)
	for _, ip := range []int{here, there} {
		done, out := k.boxes[ip].x.Tick(k.now)
		k.hears(ip, done, out)
		k.goesOn()
	}
}

func (k *crowd) over() bool {
	for _, x := range k.begun {
		if !x.closed {
			return false
		}
	}
	return true
}

// 20.4: each request comes to something once; of many connections at a time, each client reads what it wrote.
func TestCrowds(t *testing.T) {
	d := dice(4)
	for range 30 {
		k := newCrowd(t, &d)
		const all = 6
		for i := 0; i < all || !k.over(); {
			if i < all && d.upTo(19) == 0 {
				k.begins(i)
				i++
			}
			k.step()
			if k.now > 1<<14 {
				t.Fatalf("no end: %v, %v wait", k.boxes[here].x.Waiting(), k.boxes[there].x.Waiting())
			}
		}
		for _, x := range k.begun {
			if x.heap != strings.Join(x.pieces, "") {
				t.Errorf("%q, want %q", x.heap, x.pieces)
			}
		}
		for range 500 {
			k.step()
		}
		k.boxes[there].fds()
		k.boxes[there].waiting()
		k.boxes[here].fds(0)
		if len(k.asked) != 2 {
			t.Errorf("%v wait", k.asked)
		}
	}
}
