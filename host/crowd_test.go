package host_test

import (
	"strings"
	"testing"

	"sternpost/api"
	"sternpost/app"
)

// talk is what goes over one connection, as its client sees it.
type talk struct {
	k, fd  int      // the client, and its socket
	pieces []string // what it writes
	asked  int      // how many of them it asked to write
	heap   string   // what it has read
	stands bool
	shut   bool // whether it said that it writes no more
	over   bool // whether nothing more comes
	why    api.Code
}

// wrote is all that may have come to the server.
func (x *talk) wrote() string { return strings.Join(x.pieces[:x.asked], "") }

// crowd is a server and clients, and the road between them: up to a tick it loses, doubles, delays and spoils.
type crowd struct {
	*dice
	t            *testing.T
	hosts        []side
	things       map[int][]thing // by the ticks at which they come
	now, roughTo int
	tag          int
	tags         map[int]*talk // of what waits
	kinds        map[int]int   // of that
	begun        []*talk
}

func newCrowd(t *testing.T, d *dice, room int) *crowd {
	k := &crowd{dice: d, t: t, things: map[int][]thing{}, roughTo: d.upTo(1500), tags: map[int]*talk{}, kinds: map[int]int{}}
	for i := range 3 {
		s := crowded(set)
		s.IP, s.Mac, s.Neigh.Mac = here+i, hereMac+i, hereMac+i
		s.Neigh.Room, s.Neigh.Waits, s.Neigh.Patience = 9, 50, 20
		if i > 0 {
			s.Port = 0
		}
		c := &s.Table.Conn
		c.MSS, c.Room, c.Tries, c.Linger = 20+d.upTo(600), room, 32, 1<<10
		k.hosts = append(k.hosts, made(t, s))
	}
	return k
}

func (k *crowd) send(from int, out []string) {
	for _, s := range out {
		n, rough := 1, k.now < k.roughTo
		if rough {
			n = k.of(0, 1, 1, 1, 1, 2)
		}
		for range n {
			at, f := k.now+1, s
			if rough {
				at += k.upTo(9)
			}
			if rough && k.upTo(49) == 0 {
				f = spoilt(f, k.upTo(len(f)-1))
			}
			k.things[at] = append(k.things[at], thing{from, f})
		}
	}
}

func (k *crowd) asks(x *talk, r api.Request) {
	k.t.Helper()
	k.tag++
	r.Tag, r.FD = k.tag, x.fd
	k.tags[r.Tag], k.kinds[r.Tag] = x, r.Kind
	done, out := k.hosts[x.k].x.Ask(r, k.now)
	k.hears(x.k, done, out)
}

func (k *crowd) begins(i int) {
	k.t.Helper()
	x := &talk{k: 1 + i%2}
	for range 1 + k.upTo(9) {
		var lines string
		for range k.upTo(8) {
			lines += k.line()
		}
		n := k.upTo(len(lines))
		x.pieces = append(x.pieces, lines[:n], lines[n:])
	}
	k.begun = append(k.begun, x)
	k.asks(x, api.Request{Kind: api.SConnect, IP: here, Port: port})
}

// hears takes what requests came to. What is read must be what is answered to what was written, or a beginning of it.
func (k *crowd) hears(i int, done []api.Done, out []string) {
	k.t.Helper()
	k.send(i, out)
	for _, d := range done {
		x := k.tags[d.Tag]
		if x == nil || x.k != i {
			k.t.Fatalf("%d was told %+v", i, d)
		}
		delete(k.tags, d.Tag)
		switch k.kinds[d.Tag] {
		case api.SConnect:
			x.fd, x.stands, x.over, x.why = d.FD, d.Code == api.OK, d.Code != api.OK, d.Code
			k.reads(x)
		case api.SRead:
			x.heap += d.Data
			if want, _ := app.Answer(x.wrote()); !strings.HasPrefix(want, x.heap) {
				k.t.Fatalf("%q was answered to %q", x.heap, x.wrote())
			}
			x.over, x.why = d.Code != api.OK, d.Code
			k.reads(x)
		}
	}
}

func (k *crowd) reads(x *talk) {
	k.t.Helper()
	if !x.over {
		k.asks(x, api.Request{Kind: api.SRead, N: 1 + k.upTo(600)})
	}
}

// writes writes one more piece, now and then; behind all of them the client says so.
func (k *crowd) writes(x *talk) {
	k.t.Helper()
	switch {
	case !x.stands || x.over || x.shut || k.upTo(9) > 0:
	case x.asked < len(x.pieces):
		x.asked++
		k.asks(x, api.Request{Kind: api.SWrite, Data: x.pieces[x.asked-1]})
	default:
		x.shut = true
		k.asks(x, api.Request{Kind: api.SShut})
	}
}

// step is one tick.
func (k *crowd) step() {
	k.t.Helper()
	k.now++
	for _, x := range k.things[k.now] {
		for i, h := range k.hosts {
			if i != x.from {
				done, out := h.x.Frame(x.frame, k.now)
				k.hears(i, done, out)
			}
		}
	}
	delete(k.things, k.now)
	for i, h := range k.hosts {
		done, out := h.x.Tick(k.now)
		k.hears(i, done, out)
	}
	for _, x := range k.begun {
		k.writes(x)
	}
}

func (k *crowd) over() bool {
	for _, x := range k.begun {
		if !x.over {
			return false
		}
	}
	return true
}

// run lets clients come, until all are done.
func (k *crowd) run(all int) {
	k.t.Helper()
	for i := 0; i < all || !k.over(); {
		if i < all && k.upTo(19) == 0 {
			k.begins(i)
			i++
		}
		k.step()
		if k.now > 1<<14 {
			k.t.Fatalf("no end: %v wait, and %d sessions", k.tags, k.hosts[0].x.Sessions())
		}
	}
}

// 22.5: what a client reads is all that a session answers to what it wrote, whatever is lost, late, twice, or spoilt.
func TestCrowds(t *testing.T) {
	d := dice(5)
	byes := 0
	for range 40 {
		k := newCrowd(t, &d, 4000)
		k.run(8)
		for _, x := range k.begun {
			lines := strings.Join(x.pieces, "")
			want, _ := app.Answer(lines)
			if x.why != api.ErrEnd || x.heap != want {
				t.Errorf("%d: %q, want %q", x.why, x.heap, want)
			}
			if strings.HasSuffix(want, "BYE\n") {
				byes++
			}
		}
		for range 500 {
			k.step()
		}
		k.hosts[0].sessions(0)
		k.hosts[0].waiting()
	}
	if byes < 20 || byes > 300 {
		t.Errorf("%d of 320 quit", byes)
	}
}

// 22.5: where there is little room, connections may be given up; what was read till then is a beginning of what is answered.
func TestCrowdsWithoutRoom(t *testing.T) {
	d := dice(6)
	all, some := 0, 0
	for range 40 {
		k := newCrowd(t, &d, 1+d.upTo(60))
		for i := range 2000 {
			if i%100 == 0 {
				k.begins(i / 100)
			}
			k.step()
		}
		for _, x := range k.begun {
			want, _ := app.Answer(strings.Join(x.pieces, ""))
			switch {
			case x.heap == want:
				all++
			case x.heap != "":
				some++
			}
		}
	}
	if all < 50 || some < 50 {
		t.Errorf("%d read all, and %d a beginning", all, some)
	}
}
