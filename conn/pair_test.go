package conn_test

import (
	"testing"

	"sternpost/api"
	"sternpost/conn"
)

// thing is a segment on its way to one of two sides.
type thing struct {
	to, at int
	s      api.Segment
}

// road is what lies between two sides: up to a tick it loses, doubles and delays.
type road struct {
	d                          *dice
	lost, twice, late, roughTo int
	plain                      bool // it takes from each SYN that its side knows of what was received apart
	broken                     bool
	things                     []thing
}

func (r *road) send(to, now int, l []api.Segment) {
	for _, s := range l {
		if r.plain {
			s.Opts.SackOK = false
		}
		n := 1
		if now < r.roughTo {
			if r.d.upTo(99) < r.lost {
				n = 0
			}
			if r.d.upTo(99) < r.twice {
				n++
			}
		}
		for range n {
			at := now + 1
			if now < r.roughTo {
				at += r.d.upTo(r.late)
			}
			r.things = append(r.things, thing{to, at, s})
		}
	}
	// Two whose rooms are full, and that have asked each other, answer each other's answers: what is doubled might be so without end.
	if r.broken || len(r.things) > 500 {
		r.things = nil
	}
}

// arrives is what is there by a tick, in the order in which it was sent.
func (r *road) arrives(now int) (l []thing) {
	var rest []thing
	for _, x := range r.things {
		if x.at <= now {
			l = append(l, x)
		} else {
			rest = append(rest, x)
		}
	}
	r.things = rest
	return l
}

// owner has one side, of which it writes a text, and reads what comes, up to the end.
type owner struct {
	b          both
	there      bool
	set        conn.Setup
	ends       api.Ends
	iss        int
	text, heap string
	written    int
	closed     bool
	lazy       int // how seldom it reads
	ended      api.Code
}

// acts is what the owner does at a tick.
func (o *owner) acts(d *dice, now int) (out []api.Segment) {
	if !o.closed && o.written < len(o.text) && d.upTo(2) == 0 {
		n, l, e := o.b.write(o.text[o.written:min(len(o.text), o.written+1+d.upTo(2*o.set.MSS))], now)
		if e == api.OK {
			o.written += n
		}
		out = append(out, l...)
	}
	if !o.closed && o.written == len(o.text) && o.state() != api.SynSent && d.upTo(9) == 0 {
		l, _ := o.b.close(now)
		o.closed = true
		out = append(out, l...)
	}
	if o.ended == api.OK && d.upTo(o.lazy) == 0 {
		data, l, e := o.b.read(1+d.upTo(o.set.Room), now)
		o.heap += data
		o.ended = e
		out = append(out, l...)
	}
	return out
}

func (o *owner) state() int {
	if !o.there {
		return api.Listen
	}
	return o.b.m.state
}

// takes is what a side answers to a segment; the first SYN makes the side that only listens.
func (o *owner) takes(t *testing.T, s api.Segment, now int, came map[string]int) []api.Segment {
	switch {
	case o.there:
		return o.b.take(s, now)
	case s.Flags == api.SYN:
		b, l := acceptBoth(t, o.set, o.ends, o.iss, s, now, came)
		o.b, o.there = b, true
		return l
	}
	return nil
}

// pair is two owners, and the road between them.
type pair struct {
	t    *testing.T
	d    *dice
	o    [2]*owner
	road *road
	now  int
	came map[string]int
}

func newPair(t *testing.T, d *dice, came map[string]int) *pair {
	p := &pair{t: t, d: d, came: came}
	p.road = &road{d: d, lost: d.of([]int{0, 5, 20, 40}), twice: d.of([]int{0, 20}), late: d.of([]int{0, 3, 30}), roughTo: d.upTo(4000), plain: d.upTo(3) == 0}
	for i := range p.o {
		o := &owner{set: d.setup(), ends: ends, iss: d.number(), lazy: d.of([]int{0, 5, 40})}
		if i == 1 {
			o.ends = api.Ends{IP: ends.FarIP, Port: ends.FarPort, FarIP: ends.IP, FarPort: ends.Port}
		}
		// So often, and so long, that it is not given up as long as the road is rough, or the other one is lazy.
		o.set.Tries, o.set.Most, o.set.Linger = 32, 60, 1<<14
		p.o[i] = o
	}
	for i, o := range p.o {
		// Small rooms are slow ones: there less is said.
		o.text = text(d.upTo(22), d.upTo(min(2000, 20*o.set.Room, 20*p.o[1-i].set.Room)))
	}
	return p
}

func (p *pair) opens(i int) {
	o := p.o[i]
	b, l := openBoth(p.t, o.set, o.ends, o.iss, p.now, p.came)
	o.b, o.there = b, true
	p.road.send(1-i, p.now, l)
}

// step is one tick, or all up to where something is due, if there is nothing else.
func (p *pair) step() {
	p.t.Helper()
	p.now = max(p.now+1, p.quietTo())
	for _, x := range p.road.arrives(p.now) {
		p.road.send(1-x.to, p.now, p.o[x.to].takes(p.t, x.s, p.now, p.came))
	}
	for i, o := range p.o {
		if !o.there {
			continue
		}
		p.road.send(1-i, p.now, o.b.tick(p.now))
		p.road.send(1-i, p.now, o.acts(p.d, p.now))
	}
}

// quietTo is the tick up to which nothing comes to pass.
func (p *pair) quietTo() (at int) {
	if len(p.road.things) > 0 {
		return 0
	}
	for _, o := range p.o {
		if !o.there || !o.closed || o.ended == api.OK {
			return 0
		}
		if due, ok := o.b.c.Due(); ok && (at == 0 || due < at) {
			at = due
		}
	}
	return at
}

func (p *pair) over() bool {
	return p.o[0].state() == api.Closed && p.o[1].state() == api.Closed
}

// 18.9: whatever is lost, late or twice, what one owner reads is what the other one wrote, and both come to an end.
func TestPairs(t *testing.T) {
	d, came := dice(9), map[string]int{}
	for i := range 300 {
		p := newPair(t, &d, came)
		p.opens(0)
		if i%4 == 0 {
			p.opens(1)
		}
		for !p.over() && p.now < 1<<20 {
			p.step()
		}
		for i, o := range p.o {
			o.b.is(api.Closed, api.OK)
			for o.ended == api.OK {
				o.heap += o.left()
			}
			if o.ended != api.ErrEnd || o.heap != p.o[1-i].text {
				t.Fatalf("read %q, %d, want %q", o.heap, o.ended, p.o[1-i].text)
			}
		}
	}
	for _, x := range []string{"2 to 3", "3 to 4", "4 to 7", "5 to 6", "5 to 8", "6 to 10", "8 to 10", "9 to 0", "sent again", "apart", "many", "window 0", "no room", "sampled"} {
		if came[x] < 10 {
			t.Errorf("%s: came %d times", x, came[x])
		}
	}
}

// left is what was not read so far.
func (o *owner) left() string {
	data, _, e := o.b.read(1<<16, 0)
	o.ended = e
	return data
}

// 18.9: where nothing comes any more, what has sent something comes to an end by its clocks; what was read up to then was written.
func TestBrokenRoad(t *testing.T) {
	d, came := dice(99), map[string]int{}
	late := 0
	for range 200 {
		p := newPair(t, &d, came)
		p.o[0].set.Tries, p.o[1].set.Tries = d.upTo(4), d.upTo(4)
		p.opens(0)
		for breaks := d.upTo(400); p.now < breaks; {
			p.step()
		}
		p.road.broken, p.road.things = true, nil
		for range 1000 {
			p.step()
		}
		for i, o := range p.o {
			acked, sent, _, window := 0, 0, 0, 0
			if o.there {
				acked, sent, _, window = o.b.c.Numbers()
			}
			if o.state() != api.Closed && (acked != sent || window == 0 && o.there && len(o.b.m.text) > o.b.m.ackedLong) {
				t.Fatalf("state %d: %d is acknowledged, %d sent, for ever", o.state(), acked, sent)
			}
			if _, why := o.why(); why == api.ErrTime {
				late++
			}
			if n := len(o.heap); n > len(p.o[1-i].text) || o.heap != p.o[1-i].text[:n] {
				t.Fatalf("read %q, want a beginning of %q", o.heap, p.o[1-i].text)
			}
		}
	}
	if late < 100 {
		t.Errorf("%d came to an end by their clocks", late)
	}
}

func (o *owner) why() (state int, why api.Code) {
	if !o.there {
		return api.Listen, api.OK
	}
	return o.b.c.State()
}
