package event_test

import (
	"math"
	"slices"
	"testing"

	"sternpost/api"
	"sternpost/event"
	"sternpost/host"
)

// dice are numbers that look as if they were thrown, and are the same each time.
type dice uint64

func (d *dice) upTo(n int) int {
	*d = *d*6364136223846793005 + 1442695040888963407
	return int(uint64(*d)>>33) % (n + 1)
}

func (d *dice) of(l ...int) int { return l[d.upTo(len(l)-1)] }

// mostly is one of a list or, now and then, of those that are refused.
func (d *dice) mostly(refused []int, l ...int) int {
	if d.upTo(39) == 0 {
		return d.of(refused...)
	}
	return d.of(l...)
}

// slowBytes is an event's bytes, one by one.
func slowBytes(x api.Event) string {
	n := len(x.Data)
	b := []byte{byte(x.Kind), byte(x.Now >> 40), byte(x.Now >> 32), byte(x.Now >> 24), byte(x.Now >> 16), byte(x.Now >> 8), byte(x.Now), byte(n / 256), byte(n % 256)}
	return string(b) + x.Data
}

// slowMay tells whether an event may be.
func slowMay(x api.Event) bool {
	now := x.Now >= 0 && x.Now <= mostNow
	return now && (x.Kind == api.EFrame && len(x.Data) <= mostData || x.Kind == api.ETick && len(x.Data) == 0)
}

// slowAdd is what Add tells of a log with these events.
func slowAdd(l []api.Event, x api.Event) api.Code {
	switch {
	case !slowMay(x):
		return api.ErrEvent
	case len(l) > 0 && x.Now < l[len(l)-1].Now:
		return api.ErrRange
	case len(l) == mostEvents:
		return api.ErrLong
	}
	return api.OK
}

// slowTold is what Bytes tells of a log with these events.
func slowTold(l []api.Event, from, most int) (string, int) {
	if from < 1 {
		from = 1
	}
	if from > len(l) {
		return "", from
	}
	s := slowBytes(l[from-1])
	for from++; from <= len(l) && len(s)+len(slowBytes(l[from-1])) <= most; from++ {
		s += slowBytes(l[from-1])
	}
	return s, from
}

// 23.1, 23.2: logs, and slow ones beside them.
func TestLogWalks(t *testing.T) {
	d, came := dice(23), map[api.Code]int{}
	for range 60 {
		g := newLog(t)
		var l []api.Event
		now := 0
		for range 200 {
			now += d.of(0, 0, 1, 300)
			x := api.Event{Kind: d.mostly(noKinds, 1, 1, 2), Now: d.mostly(noTicks, now, now, now, now-1, mostNow-d.upTo(1)*mostNow+now)}
			if x.Kind != api.ETick || d.upTo(19) == 0 {
				x.Data = long(d.of(0, d.upTo(40), d.upTo(mostData+20)))
			}
			e := slowAdd(l, x)
			came[e]++
			if e == api.OK {
				l = append(l, x)
				g.adds(x, len(l))
			} else {
				g.refuses(x, e)
			}
			if s, e := event.Encode(x); slowMay(x) && (e != api.OK || s != slowBytes(x)) || !slowMay(x) && e != api.ErrEvent {
				t.Fatal(x, s, e)
			}
			from, most := d.of(0, -3, 1+d.upTo(len(l)+2), math.MinInt, math.MaxInt), d.of(-1, 9, d.upTo(100), d.upTo(9000), math.MaxInt)
			s, next := slowTold(l, from, most)
			g.tells(from, most, s, next)
		}
		g.has(l...)
	}
	for _, e := range []api.Code{api.OK, api.ErrEvent, api.ErrRange} {
		if came[e] < 50 {
			t.Errorf("%d: came %d times", e, came[e])
		}
	}
}

// walk is a client, and a server to which all comes as events: it is there twice, called itself, and played.
type walk struct {
	*dice
	t              *testing.T
	client         *host.Host
	called, played *host.Host
	log            log
	all            []api.Event
	counts         []int
	way            []string // to the server
	now, tag, fds  int
	heard          int // frames that came to the server, and of which something came out
}

func newWalk(t *testing.T, d *dice) *walk {
	return &walk{dice: d, t: t, client: made(t, clientSet), called: made(t, set), played: made(t, set), log: newLog(t)}
}

// comes is an event of the server. What comes out comes to the client, or is lost.
func (k *walk) comes(x api.Event) {
	k.t.Helper()
	k.log.adds(x, len(k.all)+1)
	out := plays(k.t, k.played, k.called, x)
	k.all, k.counts = append(k.all, x), append(k.counts, len(out))
	if x.Kind == api.EFrame && len(out) > 0 {
		k.heard++
	}
	for _, s := range out {
		if k.upTo(9) > 0 {
			k.hears(k.client.Frame(s, k.now))
		}
	}
}

// hears takes what the client's call came to.
func (k *walk) hears(done []api.Done, out []string) {
	for _, d := range done {
		if d.Code == api.OK {
			k.fds = max(k.fds, d.FD)
		}
	}
	k.way = append(k.way, out...)
}

func (k *walk) asks() {
	k.tag++
	r := api.Request{Tag: k.tag, FD: k.upTo(k.fds)}
	switch n := k.upTo(9); {
	case n < 2:
		r.Kind, r.IP, r.Port = api.SConnect, here, port
	case n < 4:
		r.Kind, r.N = api.SRead, 99
	case n < 8:
		r.Kind, r.Data = api.SWrite, []string{"PUT a 1\n", "ADD a 2\nAPP b x\n", "GET a\nLI", "ST\nCOUNT\n", "QUIT\n"}[k.of(0, 0, 1, 1, 2, 3, k.upTo(4))]
	default:
		r.Kind = k.of(api.SShut, api.SClose, api.SAbort, api.SStat)
	}
	k.hears(k.client.Ask(r, k.now))
}

func (k *walk) step() {
	k.t.Helper()
	switch n := k.upTo(99); {
	case n < 45 && len(k.way) > 0:
		s := k.way[0]
		k.way = k.way[1:]
		if k.upTo(19) == 0 {
			s = s[:k.upTo(len(s))]
		}
		if k.upTo(9) > 0 {
			k.comes(frame(k.now, s))
		}
	case n < 60:
		k.now += k.of(0, 1, 1, 2, 5)
		k.comes(tick(k.now))
		k.hears(k.client.Tick(k.now))
	case n < 65:
		k.hears(nil, k.client.Ping(here, 1, 2, k.now))
	case n < 90:
		k.asks()
	}
}

// 23.3, 23.4: a host that is called itself, one on which its events are played, and those on which they are replayed from the log, and from its bytes, are alike.
func TestWalks(t *testing.T) {
	d := dice(24)
	heard, sessions := 0, 0
	for range 60 {
		k := newWalk(t, &d)
		for range 600 {
			k.step()
		}
		heard += k.heard
		sessions += k.called.Sessions()
		k.log.has(k.all...)
		a := replays(t, set, k.all, k.counts)
		alike(t, a, k.called)
		b := replays(t, set, k.told(), k.counts)
		for range 20 {
			x := tick(k.now + d.upTo(9))
			k.now = x.Now
			l := event.Play(a, x)
			if !slices.Equal(l, event.Play(b, x)) || !slices.Equal(l, event.Play(k.played, x)) {
				t.Fatal(x)
			}
		}
	}
	if heard < 1000 || sessions < 30 {
		t.Error(heard, sessions)
	}
}

// told is all events, as they are read from the log's bytes.
func (k *walk) told() []api.Event {
	k.t.Helper()
	var all []api.Event
	for from := 1; from <= len(k.all); {
		s, next := k.log.x.Bytes(from, k.upTo(3000))
		l, e := event.Parts(s)
		if e != api.OK || next == from {
			k.t.Fatal(from, e)
		}
		all, from = append(all, l...), next
	}
	return all
}
