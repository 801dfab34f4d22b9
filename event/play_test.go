package event_test

import (
	"slices"
	"testing"

	"sternpost/api"
	"sternpost/arp"
	"sternpost/conn"
	"sternpost/ether"
	"sternpost/event"
	"sternpost/host"
	"sternpost/icmp"
	"sternpost/ip"
	"sternpost/neigh"
	"sternpost/table"
)

// The server's addresses, and those of its client.
const (
	here, hereMac   = 11, 13
	there, thereMac = 10, 12
	port            = 80
)

var set = host.Setup{
	Mac: hereMac, IP: here, Port: port,
	Neigh: neigh.Setup{Mac: hereMac, Age: 100, Patience: 4, Room: 9, Waits: 9},
	Room:  4, Patience: 9,
	Table: table.Setup{
		Conn: conn.Setup{MSS: 40, Room: 200, First: 8, Least: 4, Most: 40, Tries: 5, Linger: 5},
		Key:  11, Backlog: 3, Room: 5,
	},
}

// with is the setup but for what is changed.
func with(change func(*host.Setup)) host.Setup {
	s := set
	change(&s)
	return s
}

// clientSet is the setup of a host without a server.
var clientSet = with(func(s *host.Setup) { s.Mac, s.Neigh.Mac, s.IP, s.Port = thereMac, thereMac, there, 0 })

func made(t *testing.T, s host.Setup) *host.Host {
	t.Helper()
	h, e := host.New(s)
	if e != api.OK {
		t.Fatal(e)
	}
	return h
}

// question is the frame by which the client asks who has the server's address.
func question(t *testing.T) string {
	t.Helper()
	s, e := arp.Encode(api.Arp{Op: api.ArpAsk, FromMac: thereMac, FromIP: there, ToIP: here})
	if e != api.OK {
		t.Fatal(e)
	}
	return framed(t, api.Everyone, api.TypeArp, s)
}

// echo is the frame by which the client asks for an echo.
func echo(t *testing.T) string {
	t.Helper()
	m, e := icmp.Encode(api.Icmp{Type: 8, A: 1, B: 2})
	if e != api.OK {
		t.Fatal(e)
	}
	p, e := ip.Encode(api.Packet{From: there, To: here, TTL: 9, Proto: api.ProtoIcmp, Data: m})
	if e != api.OK {
		t.Fatal(e)
	}
	return framed(t, hereMac, api.TypeIP, p)
}

func framed(t *testing.T, to, kind int, data string) string {
	t.Helper()
	s, e := ether.Encode(api.Frame{To: to, From: thereMac, Type: kind, Data: data})
	if e != api.OK {
		t.Fatal(e)
	}
	return s
}

// story is events by which something comes out, and something does not: an echo waits until the client's hardware address is known.
func story(t *testing.T) (l []api.Event, counts []int) {
	t.Helper()
	l = []api.Event{tick(1), frame(2, echo(t)), frame(2, "no frame"), tick(3), tick(7), frame(8, question(t)), frame(8, echo(t)), frame(6, echo(t)), frame(9, ""), tick(9), tick(9), tick(4)}
	return l, []int{0, 1, 0, 0, 1, 2, 1, 0, 0, 0, 0, 0}
}

// plays looks whether an event comes to one host by Play as it comes to another one that is called itself.
func plays(t *testing.T, a, b *host.Host, x api.Event) []string {
	t.Helper()
	out := event.Play(a, x)
	var want []string
	if x.Kind == api.ETick {
		_, want = b.Tick(x.Now)
	} else {
		_, want = b.Frame(x.Data, x.Now)
	}
	if !slices.Equal(out, want) {
		t.Fatalf("Play(%+v): %q, want %q", x, out, want)
	}
	alike(t, a, b)
	return out
}

func alike(t *testing.T, a, b *host.Host) {
	t.Helper()
	if a.Now() != b.Now() || a.Sessions() != b.Sessions() || a.Echoes() != b.Echoes() || !slices.Equal(a.Waiting(), b.Waiting()) {
		t.Fatalf("Now %d and %d, Sessions %d and %d, Echoes %d and %d", a.Now(), b.Now(), a.Sessions(), b.Sessions(), a.Echoes(), b.Echoes())
	}
}

// 23.3
func TestPlay(t *testing.T) {
	a, b := made(t, set), made(t, set)
	l, counts := story(t)
	for i, x := range l {
		if out := plays(t, a, b, x); len(out) != counts[i] {
			t.Fatalf("%d: %q", i, out)
		}
	}
	if a.Now() != 9 {
		t.Error(a.Now())
	}
}

// 23.3: without a host, and of what may not be, nothing comes, and the host stays as it is.
func TestPlayNothing(t *testing.T) {
	l, _ := story(t)
	for _, x := range append(wrong(), l...) {
		if out := event.Play(nil, x); len(out) != 0 {
			t.Errorf("%+v: %q", x, out)
		}
	}
	a, b := made(t, set), made(t, set)
	plays(t, a, b, frame(2, question(t)))
	more := []api.Event{{Kind: api.ETick, Now: 9, Data: "x"}, {Kind: api.ETick, Now: 9, Data: echo(t)}, {Kind: 0, Now: 9, Data: echo(t)}, {Kind: 257, Now: 9, Data: echo(t)}, {Kind: 3, Now: 9}, frame(9, echo(t)+long(mostData))}
	for _, x := range append(wrong(), more...) {
		if out := event.Play(a, x); len(out) != 0 {
			t.Errorf("%+v: %q", x, out)
		}
		alike(t, a, b)
	}
	plays(t, a, b, frame(2, echo(t)))
}

// replays looks at a host on which these events were played, and gives it.
func replays(t *testing.T, s host.Setup, l []api.Event, counts []int) *host.Host {
	t.Helper()
	given := slices.Clone(l)
	h, n, e := event.Replay(s, l)
	if e != api.OK || h == nil || !slices.Equal(n, counts) || !slices.Equal(l, given) {
		t.Fatalf("%v, %d, want %v", n, e, counts)
	}
	return h
}

// 23.3
func TestReplay(t *testing.T) {
	h := replays(t, set, nil, nil)
	alike(t, h, made(t, set))
	l, counts := story(t)
	b := made(t, set)
	for i, x := range l {
		event.Play(b, x)
		a := replays(t, set, l[:i+1], counts[:i+1])
		alike(t, a, b)
	}
	// It goes on as a host that all came to, and knows nothing of others of the same events.
	a, c := replays(t, set, l, counts), replays(t, set, l, counts)
	plays(t, a, b, frame(12, echo(t)))
	b = made(t, set)
	for _, x := range l {
		event.Play(b, x)
	}
	plays(t, c, b, tick(10))
}

func replayRefused(t *testing.T, s host.Setup, l []api.Event, want api.Code) {
	t.Helper()
	if h, n, e := event.Replay(s, l); h != nil || len(n) != 0 || e != want {
		t.Errorf("%v, %v, %d, want %d", h, n, e, want)
	}
}

// 23.3: what New refuses is told ahead of events that may not be.
func TestReplayRefused(t *testing.T) {
	l, _ := story(t)
	for _, s := range []host.Setup{
		{},
		with(func(s *host.Setup) { s.Port = 65536 }),
		with(func(s *host.Setup) { s.Mac++ }),
		with(func(s *host.Setup) { s.Neigh.Age = 0 }),
		with(func(s *host.Setup) { s.IP = -1 }),
		with(func(s *host.Setup) { s.Room = 0 }),
		with(func(s *host.Setup) { s.Table.Conn.MSS = 0 }),
		with(func(s *host.Setup) { s.Table.Backlog = 0 }),
	} {
		h, want := host.New(s)
		if h != nil || want == api.OK {
			t.Fatal(s)
		}
		for _, l := range [][]api.Event{nil, l, {{}}} {
			replayRefused(t, s, l, want)
		}
	}
	for _, x := range wrong() {
		replayRefused(t, set, []api.Event{x}, api.ErrEvent)
		for i := range len(l) + 1 {
			replayRefused(t, set, slices.Insert(slices.Clone(l), i, x), api.ErrEvent)
		}
	}
}
