package host

import (
	"slices"

	"sternpost/api"
	"sternpost/app"
)

const (
	firstTag = 1 << 20 // of the server's requests
	mostRead = 512

	mostSockets = 64 // of a box of sockets
	mostWaits   = 64 // of the requests there
)

// server lets connections in at a port, and has a talk over each. A talk has one request in the box, from the SAccept that let it in on: the next one takes the place of the one that is done, so that none is refused for want of room.
type server struct {
	fd      int  // of its port
	listens bool // whether that is there still: whoever asks things of the host may close it
	accept  int  // the tag of the SAccept that waits; 0 if none does
	last    int  // the tag that was given last
	talks   []*talk
}

// talk is a session over a connection.
type talk struct {
	session *app.Session
	fd      int
	tag     int // of what it asked last
	kind    int // of that
}

// find is where the talk is that asked under a tag.
func (s *server) find(tag int) int {
	return slices.IndexFunc(s.talks, func(x *talk) bool { return x.tag == tag })
}

func (s *server) nextTag() int {
	s.last++
	return s.last
}

// next is what a talk asks for, once what it asked last is done.
func (x *talk) next(d api.Done) api.Request {
	if d.Code == api.OK && x.kind == api.SRead {
		// A session that is over reads no more, so it refuses nothing.
		if answer, _ := x.session.Take(d.Data); answer != "" {
			return api.Request{Kind: api.SWrite, FD: x.fd, Data: answer}
		}
	}
	if d.Code != api.OK || x.session.Over() {
		return api.Request{Kind: api.SClose, FD: x.fd}
	}
	return x.read()
}

func (x *talk) read() api.Request {
	return api.Request{Kind: api.SRead, FD: x.fd, N: mostRead}
}

// serve begins to serve a port. It leans on a port that may be, and a box without sockets: there nothing is refused.
func (h *Host) serve(port int) {
	done, _ := h.socks.Ask(api.Request{Tag: firstTag, Kind: api.SListen, Port: port}, h.now)
	h.server = &server{fd: done[0].FD, listens: true, last: firstTag}
	t := turn{Host: h}
	t.settle()
}

// settle looks at all that requests came to, until all that the server asks waits. It lets connections in last: talks go ahead of them, and one that ends makes room.
func (t *turn) settle() {
	for again := true; again; again = t.letsIn() {
		for len(t.news) > 0 {
			d := t.news[0]
			t.news = t.news[1:]
			t.look(d)
		}
	}
}

// letsIn asks for the next connection, if that is not asked so far, and can be. Where there is no room for it a later call finds some.
func (t *turn) letsIn() bool {
	s := t.server
	if s == nil || !s.listens || s.accept != 0 || !t.hasRoom() {
		return false
	}
	s.accept = s.nextTag()
	t.ask(api.Request{Tag: s.accept, Kind: api.SAccept, FD: s.fd})
	return true
}

// hasRoom tells whether a request that accepts a connection is not refused at once.
func (t *turn) hasRoom() bool {
	return len(t.socks.FDs()) < mostSockets && len(t.socks.Waiting()) < mostWaits
}

func (t *turn) look(d api.Done) {
	switch {
	case d.Tag < firstTag:
		t.done = append(t.done, d)
	case d.Tag == t.server.accept:
		t.letIn(d)
	default:
		t.goOn(d)
	}
}

// letIn begins a talk over a connection that came in. Without a free number for that one waits until there is room; else the port's socket is there no more.
func (t *turn) letIn(d api.Done) {
	s := t.server
	s.accept = 0
	switch d.Code {
	case api.OK:
		x := &talk{session: app.New(), fd: d.FD}
		s.talks = append(s.talks, x)
		t.askFor(x, x.read())
	case api.ErrFull:
	default:
		s.listens = false
	}
}

// goOn lets a talk ask for what comes next, or ends it.
func (t *turn) goOn(d api.Done) {
	s := t.server
	at := s.find(d.Tag)
	x := s.talks[at]
	if x.kind == api.SClose {
		s.talks = slices.Delete(s.talks, at, at+1)
		return
	}
	t.askFor(x, x.next(d))
}

func (t *turn) askFor(x *talk, r api.Request) {
	r.Tag = t.server.nextTag()
	x.tag, x.kind = r.Tag, r.Kind
	t.ask(r)
}

func (t *turn) ask(r api.Request) { t.hear(t.socks.Ask(r, t.now)) }
