package conn_test

import (
	"fmt"
	"slices"
	"strconv"
	"testing"

	"sternpost/api"
	"sternpost/conn"
	"sternpost/seg"
)

// both is a connection, and the slow one that it has to be like.
type both struct {
	side
	m    *slow
	came map[string]int
}

func (b both) fork() both { return both{b.side.fork(), b.m.fork(), b.came} }

// same looks at what was sent, and at all that is told.
func (b both) same(what string, l, want []api.Segment) {
	b.t.Helper()
	b.sent(what, l, want)
	b.is(b.m.state, b.m.why)
	b.numbers(b.m.ackedTo(), b.m.sentTo(), b.m.expected(), b.m.window)
	at, ok := b.c.Due()
	wantAt, wantOK := b.m.due()
	if at != wantAt || ok != wantOK {
		b.t.Fatalf("%s: due at %d, %v, want %d, %v", what, at, ok, wantAt, wantOK)
	}
}

func (b both) take(s api.Segment, now int) []api.Segment {
	b.t.Helper()
	state, sampling, tries := b.m.state, b.m.sampling, b.m.tries
	want := b.m.take(s, now)
	l := b.c.Take(s, now)
	if !slices.EqualFunc(l, want, seg.Same) {
		b.t.Fatalf("Take(%+v, %d) sends\n%+v, want\n%+v", s, now, l, want)
	}
	b.same("Take", l, want)
	b.went("", state)
	b.count("sampled", sampling && !b.m.sampling)
	b.count("tries anew", tries > b.m.tries)
	b.count("apart", len(b.m.got) > 0)
	b.count("sent again", len(l) > 0 && l[0].Seq != b.m.sentTo() && l[0].Data != "")
	b.count("many", len(l) > 3)
	b.count("fin ahead", b.m.fin > len(b.m.order))
	b.count("window 0", b.m.window == 0)
	b.count("no room", b.m.room() == 0)
	return l
}

func (b both) count(what string, holds bool) {
	if holds {
		b.came[what]++
	}
}

// went counts from which state it went to which.
func (b both) went(how string, from int) {
	b.came[how+strconv.Itoa(from)+" to "+strconv.Itoa(b.m.state)]++
}

func (b both) tick(now int) []api.Segment {
	b.t.Helper()
	state := b.m.state
	want := b.m.tick(now)
	l := b.c.Tick(now)
	b.same("Tick", l, want)
	if len(l) > 0 || b.m.state != state {
		b.went("ticked ", state)
	}
	return l
}

func (b both) write(data string, now int) (int, []api.Segment, api.Code) {
	b.t.Helper()
	n, want, e := b.m.write(data, now)
	got, l, code := b.c.Write(data, now)
	if got != n || code != e {
		b.t.Fatalf("Write: %d, %d, want %d, %d", got, code, n, e)
	}
	b.same("Write", l, want)
	b.came[fmt.Sprintf("written %d", e)]++
	return n, l, e
}

func (b both) read(most, now int) (string, []api.Segment, api.Code) {
	b.t.Helper()
	data, want, e := b.m.reads(most, now)
	got, l, code := b.c.Read(most, now)
	if got != data || code != e {
		b.t.Fatalf("Read: %q, %d, want %q, %d", got, code, data, e)
	}
	b.same("Read", l, want)
	b.came[fmt.Sprintf("read %d, tells %d", e, len(l))]++
	return data, l, e
}

func (b both) close(now int) ([]api.Segment, api.Code) {
	b.t.Helper()
	state := b.m.state
	want, e := b.m.close(now)
	l, code := b.c.Close(now)
	if code != e {
		b.t.Fatalf("Close: %d, want %d", code, e)
	}
	b.same("Close", l, want)
	b.came[fmt.Sprintf("closed %d: %d", state, e)]++
	return l, e
}

func (b both) abort() []api.Segment {
	b.t.Helper()
	state := b.m.state
	want := b.m.abort()
	l := b.c.Abort()
	b.same("Abort", l, want)
	b.came[fmt.Sprintf("aborted %d: %d", state, len(l))]++
	return l
}

func openBoth(t *testing.T, set conn.Setup, ends api.Ends, iss, now int, came map[string]int) (both, []api.Segment) {
	t.Helper()
	c, l, e := conn.Open(set, ends, iss, now)
	if e != api.OK {
		t.Fatal(e)
	}
	m, want := slowOpen(set, ends, iss, now)
	b := both{side{t, c}, m, came}
	b.same("Open", l, want)
	return b, l
}

func acceptBoth(t *testing.T, set conn.Setup, ends api.Ends, iss int, syn api.Segment, now int, came map[string]int) (both, []api.Segment) {
	t.Helper()
	c, l, e := conn.Accept(set, ends, iss, syn, now)
	if e != api.OK {
		t.Fatal(e)
	}
	m, want := slowAccept(set, ends, iss, syn, now)
	b := both{side{t, c}, m, came}
	b.same("Accept", l, want)
	return b, l
}

// setup is one of small numbers, so that all edges come soon.
func (d *dice) setup() conn.Setup {
	least := 1 + d.upTo(5)
	first := least + d.upTo(9)
	return conn.Setup{
		MSS: 1 + d.upTo(d.of([]int{2, 9, 30, 700})), Room: 1 + d.upTo(d.of([]int{3, 30, 100, 3000})), Delay: d.upTo(3),
		First: first, Least: least, Most: first + d.upTo(50), Tries: d.upTo(d.of([]int{2, 6, 32})), Linger: 1 + d.upTo(30),
	}
}

// number is a number of 32 bits, mostly near where they begin anew.
func (d *dice) number() int {
	if d.upTo(1) == 0 {
		return go32(d.upTo(400) - 200)
	}
	return go32(d.upTo(half-1)*2 + d.upTo(1))
}

func (d *dice) options() api.Opts {
	return api.Opts{MSS: d.upTo(2) * d.of([]int{1, 5, 20, 300, 20000}), SackOK: d.upTo(2) > 0}
}

// near is mostly a number itself, or one near it.
func (d *dice) near(n, far int) int {
	switch d.upTo(11) {
	case 0:
		return go32(n + d.upTo(4) - 2)
	case 1:
		return go32(n + d.upTo(2*far) - far)
	case 2:
		return go32(n + half + d.upTo(4) - 2)
	}
	return n
}

// text is bytes that tell at which number they are, so that those of one number are always the same.
func text(from, n int) string {
	b := make([]byte, n)
	for i := range b {
		b[i] = byte('a' + go32(from+i)%23)
	}
	return string(b)
}

// segment is one that may come to a connection: mostly such as brings it on.
func (d *dice) segment(m *slow) api.Segment {
	s := api.Segment{From: m.ends.FarPort, To: m.ends.Port, Flags: api.ACK, Window: m.window}
	s.Ack = go32(m.ackedTo() + d.upTo(go32(m.sentTo()-m.ackedTo())))
	if d.upTo(2) == 0 {
		s.Ack = m.ackedTo()
	}
	s.Ack = d.near(s.Ack, 60)
	if d.upTo(3) == 0 {
		s.Window = d.upTo(d.of([]int{0, 3, 40, 3000, 65535}))
	}
	if m.irs < 0 {
		s.Seq, s.Flags, s.Opts, s.Window = d.number(), api.SYN|api.ACK, d.options(), d.upTo(60)
		s.Ack = d.near(go32(m.iss+1), 60)
	} else {
		s.Seq = d.near(m.expected(), m.set.Room+1)
		if d.upTo(2) == 0 {
			s.Data = text(s.Seq, d.upTo(d.of([]int{1, 10, m.set.Room, 1480})))
		}
		for range d.upTo(3) {
			from := go32(m.ackedTo() + d.upTo(m.flight()))
			s.Opts.Sacks = append(s.Opts.Sacks, api.Range{From: d.near(from, 30), To: go32(from + 1 + d.upTo(20))})
		}
	}
	if d.upTo(30) == 0 {
		s.Flags |= api.FIN
	}
	switch kind := d.upTo(199); {
	case kind < 2:
		s.Flags ^= 1 << d.upTo(5)
	case kind == 2 || kind < 20 && m.irs < 0:
		s.Flags |= api.RST
	case kind < 50 && m.irs < 0:
		s.Flags ^= api.ACK
	}
	if s.Flags&api.ACK == 0 {
		s.Ack = 0
	}
	if d.upTo(99) == 0 {
		s.From += d.upTo(2) - 1
	}
	return s
}

// step does one thing to both.
func (d *dice) step(b both, now int) {
	b.t.Helper()
	switch kind := d.upTo(99); {
	case kind < 2:
		b.close(now)
	case kind == 2:
		if d.upTo(4) == 0 || b.m.irs < 0 {
			b.abort()
		}
	case kind < 15:
		b.write(text(go32(b.m.iss+1+len(b.m.text)), d.upTo(d.of([]int{0, 5, 50, 4000}))), now)
	case kind < 25:
		b.read(d.upTo(d.of([]int{0, 3, 20, 4000}))-d.upTo(1), now)
	case kind < 45:
		b.tick(now)
	case kind < 48:
		if at, ok := b.c.Due(); ok {
			b.tick(at - d.upTo(1))
		}
	case kind < 50:
		// What becomes of a fork must not be seen.
		f := b.fork()
		for range d.upTo(4) {
			d.step(f, now)
		}
	case kind < 54 && b.m.flight() > 0:
		// Acknowledgements that tell nothing new.
		s := api.Segment{From: 80, To: 5, Seq: b.m.expected(), Ack: b.m.ackedTo(), Flags: api.ACK, Window: b.m.window}
		for range 3 {
			b.take(s, now)
		}
	default:
		b.take(d.segment(b.m), now)
	}
}

// 18.1 to 18.8: whatever comes in whatever order, it is as the words say it.
func TestWalks(t *testing.T) {
	d, came := dice(18), map[string]int{}
	for range 5000 {
		var b both
		now := d.upTo(1000)
		set := d.setup()
		if d.upTo(2) == 0 {
			b, _ = openBoth(t, set, ends, d.number(), now, came)
		} else {
			syn := with(far(api.SYN, d.number(), 0, d.upTo(100), letters(d.upTo(9))), d.options())
			b, _ = acceptBoth(t, set, ends, d.number(), syn, now, came)
		}
		if d.upTo(40) == 0 {
			now = api.MaxTick - d.upTo(100)
		}
		for range 80 {
			d.step(b, now)
			now += d.upTo(d.of([]int{0, 1, 1, 4, 40})) - d.upTo(1)
		}
	}
	checkCame(t, came)
}

// checkCame looks whether all that may come to pass did, often enough.
func checkCame(t *testing.T, came map[string]int) {
	t.Helper()
	var want []string
	for _, x := range []string{
		"2 to 0", "2 to 2", "2 to 3", "2 to 4", "3 to 0", "3 to 3", "3 to 4", "3 to 5", "3 to 7", "3 to 8", "4 to 0", "4 to 4", "4 to 7",
		"5 to 0", "5 to 5", "5 to 6", "5 to 8", "5 to 10", "6 to 0", "6 to 6", "6 to 10", "7 to 0", "7 to 7", "8 to 0", "8 to 8", "8 to 10",
		"9 to 0", "9 to 9", "10 to 0", "10 to 10",
	} {
		want = append(want, x)
	}
	for state := api.SynSent; state <= api.LastAck; state++ {
		if state != api.FinWait2 {
			want = append(want, fmt.Sprintf("ticked %d to 0", state))
		}
		want = append(want, fmt.Sprintf("ticked %d to %d", state, state))
	}
	want = append(want, "ticked 10 to 0", "ticked 10 to 10")
	for state := api.SynSent; state <= api.TimeWait; state++ {
		e := api.OK
		if state > api.Estab && state != api.CloseWait {
			e = api.ErrState
		}
		want = append(want, fmt.Sprintf("closed %d: %d", state, e))
		n := 1
		if state == api.SynSent || state > api.CloseWait {
			n = 0
		}
		want = append(want, fmt.Sprintf("aborted %d: %d", state, n))
	}
	for _, e := range []api.Code{api.OK, api.ErrFull, api.ErrState, api.ErrReset, api.ErrTime} {
		want = append(want, fmt.Sprintf("written %d", e))
	}
	for _, e := range []api.Code{api.OK, api.ErrEnd, api.ErrState, api.ErrReset, api.ErrTime} {
		want = append(want, fmt.Sprintf("read %d, tells 0", e))
	}
	want = append(want, "read 0, tells 1", "sampled", "tries anew", "apart", "sent again", "many", "fin ahead", "window 0", "no room")
	for _, x := range want {
		if came[x] < 5 {
			t.Errorf("%s: came %d times", x, came[x])
		}
	}
}

// P1, R7: what is asked twice is answered alike.
func TestToldTwice(t *testing.T) {
	d := dice(7)
	b, _ := openBoth(t, set, ends, 100, 0, map[string]int{})
	for now := range 400 {
		d.step(b, now)
		f, g := b.c.Fork(), b.c.Fork()
		s := d.segment(b.m)
		l, m := f.Take(s, now), g.Take(s, now)
		if len(l) != len(m) {
			t.Fatal(l, m)
		}
		for i := range l {
			if !seg.Same(l[i], m[i]) {
				t.Fatal(l, m)
			}
		}
	}
}
