package host_test

import (
	"slices"
	"testing"

	"sternpost/api"
	"sternpost/host"
)

// clientAt is the setup of a host without a server.
func clientAt(ip int) host.Setup {
	return with(func(s *host.Setup) {
		s.IP, s.Mac, s.Port = ip, ip+2, 0
		s.Neigh.Mac = s.Mac
	})
}

// thing is a frame on its way, and the host from which it came.
type thing struct {
	from  int
	frame string
}

// wire is hosts, the first one with a server, that hear all frames of each other.
type wire struct {
	t     *testing.T
	hosts []side
	now   int
	tag   int
	came  []map[int]api.Done // of each host what requests came to, by tags
	dead  map[int]bool       // hosts that hear nothing, and of which nothing is heard
	late  bool               // whether what goes out comes at the next tick, else at once
	way   []thing
}

func newWire(t *testing.T, s ...host.Setup) *wire {
	t.Helper()
	w := &wire{t: t, dead: map[int]bool{}}
	for _, x := range s {
		w.hosts = append(w.hosts, made(t, x))
		w.came = append(w.came, map[int]api.Done{})
	}
	return w
}

// hears takes what a call of a host came to; if nothing is late, all others hear what went out, and what comes of that.
func (w *wire) hears(k int, done []api.Done, out []string) {
	w.t.Helper()
	w.takes(k, done, out)
	for !w.late && len(w.way) > 0 {
		w.arrives()
	}
}

func (w *wire) takes(k int, done []api.Done, out []string) {
	w.t.Helper()
	for _, d := range done {
		if _, twice := w.came[k][d.Tag]; twice || d.Tag >= firstTag {
			w.t.Fatalf("%d was told %+v", k, d)
		}
		w.came[k][d.Tag] = d
	}
	for _, s := range out {
		w.way = append(w.way, thing{k, s})
	}
}

// arrives lets the first thing on its way come.
func (w *wire) arrives() {
	w.t.Helper()
	x := w.way[0]
	w.way = w.way[1:]
	for k, h := range w.hosts {
		if k != x.from && !w.dead[k] && !w.dead[x.from] {
			done, out := h.x.Frame(x.frame, w.now)
			w.takes(k, done, out)
		}
	}
}

// asks asks something of a host under a new tag, and tells that.
func (w *wire) asks(k int, r api.Request) int {
	w.t.Helper()
	w.tag++
	r.Tag = w.tag
	done, out := w.hosts[k].x.Ask(r, w.now)
	w.hears(k, done, out)
	return r.Tag
}

// gets is what a request of a host came to.
func (w *wire) gets(k, tag int, want api.Done) {
	w.t.Helper()
	want.Tag = tag
	if d, ok := w.came[k][tag]; !ok || d != want {
		w.t.Fatalf("%d: %+v, %v, want %+v", k, d, ok, want)
	}
}

// waits tells whether nothing came of a request so far.
func (w *wire) waits(k, tag int) {
	w.t.Helper()
	d, ok := w.came[k][tag]
	if ok || !slices.Contains(w.hosts[k].x.Waiting(), tag) {
		w.t.Fatalf("%d: %+v, %v, and %v wait", k, d, ok, w.hosts[k].x.Waiting())
	}
}

// does is a request of a host that comes to something at once.
func (w *wire) does(k int, r api.Request, want api.Done) {
	w.t.Helper()
	w.gets(k, w.asks(k, r), want)
}

func (w *wire) connects(k, fd int) {
	w.t.Helper()
	w.does(k, api.Request{Kind: api.SConnect, IP: here, Port: port}, api.Done{FD: fd})
}

func (w *wire) writes(k, fd int, data string) {
	w.t.Helper()
	w.does(k, api.Request{Kind: api.SWrite, FD: fd, Data: data}, api.Done{N: len(data)})
}

func (w *wire) reads(k, fd int, want string) {
	w.t.Helper()
	w.does(k, api.Request{Kind: api.SRead, FD: fd, N: 1 << 20}, api.Done{N: len(want), Data: want})
}

// ends reads that the server is done.
func (w *wire) ends(k, fd int) {
	w.t.Helper()
	w.does(k, api.Request{Kind: api.SRead, FD: fd, N: 1 << 20}, api.Done{Code: api.ErrEnd})
}

func (w *wire) closes(k, fd int) {
	w.t.Helper()
	w.does(k, api.Request{Kind: api.SClose, FD: fd}, api.Done{})
}

// goes goes on for so many ticks.
func (w *wire) goes(ticks int) {
	w.t.Helper()
	for range ticks {
		w.now++
		for range len(w.way) {
			w.arrives()
		}
		for k, h := range w.hosts {
			if !w.dead[k] {
				done, out := h.x.Tick(w.now)
				w.hears(k, done, out)
			}
		}
	}
}

func (w *wire) sessions(want int) {
	w.t.Helper()
	w.hosts[0].sessions(want)
}
