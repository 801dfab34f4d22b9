package table

import (
	"sternpost/api"
	"sternpost/conn"
)

// owner is whether somebody asks things of a connection, or may come to do so.
type owner int

const (
	waits owner = iota // it came in, and is to be accepted
	held
	none
)

// link is a connection, with what the table knows of it.
type link struct {
	number int
	ends   api.Ends
	conn   *conn.Conn
	owner  owner
}

// gone tells whether nobody asks anything of a connection any more, nor does it of anybody.
func (l *link) gone() bool {
	state, _ := l.conn.State()
	return state == api.Closed && l.owner != held
}

func (l *link) waitsAt(port int) bool { return l.owner == waits && l.ends.Port == port }

// stands tells whether both sides have heard of each other.
func (l *link) stands() bool {
	switch state, _ := l.conn.State(); state {
	case api.SynSent, api.SynRcvd, api.Closed:
		return false
	}
	return true
}

// outs is what a connection sends, as it goes to the other side.
func (l *link) outs(sent []api.Segment) []api.Out {
	var out []api.Out
	for _, s := range sent {
		out = append(out, api.Out{To: l.ends.FarIP, S: s})
	}
	return out
}
