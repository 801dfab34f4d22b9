package sock_test

import (
	"slices"
	"testing"

	"sternpost/api"
	"sternpost/table"
)

// entry is a socket: a port that listens, or a connection's number.
type entry struct{ fd, port, number int }

// asked is a request, and what became of it so far.
type asked struct {
	r       api.Request
	socket  entry // of SConnect
	opened  bool
	written int
}

// slow is a box as the words say it, word by word: sockets and requests are in lists, looked through from the front on, over a table of its own.
type slow struct {
	table   *table.Table
	entries []entry
	asks    []*asked
	out     []api.Out
}

func slowOf(s table.Setup, ip int) *slow {
	x, _ := table.New(s, ip)
	return &slow{table: x}
}

func (m *slow) at(fd int) int {
	return slices.IndexFunc(m.entries, func(s entry) bool { return s.fd == fd })
}

// free is the least number of no socket; 64 if there is none.
func (m *slow) free() int {
	fd := 0
	for fd < most && m.at(fd) >= 0 {
		fd++
	}
	return fd
}

func (m *slow) drop(number, fd int) {
	if number > 0 {
		m.table.Drop(number)
	}
	i := m.at(fd)
	m.entries = slices.Delete(m.entries, i, i+1)
}

func (m *slow) sends(out []api.Out) { m.out = append(m.out, out...) }

func (m *slow) look(now int) (done []api.Done) {
	for again := true; again; {
		again = false
		for i, a := range m.asks {
			if d, ok := m.answer(a, now); ok {
				d.Tag = a.r.Tag
				done = append(done, d)
				m.asks = slices.Delete(slices.Clone(m.asks), i, i+1)
				again = true
				break
			}
		}
	}
	return done
}

func (m *slow) answer(a *asked, now int) (d api.Done, ok bool) {
	switch a.r.Kind {
	case api.SListen:
		return m.listen(a.r.Port), true
	case api.SConnect:
		return m.connect(a, now)
	}
	i := m.at(a.r.FD)
	if i < 0 {
		return failed(0, api.ErrNone), true
	}
	if s := m.entries[i]; s.number > 0 {
		return m.answerOf(s, a, now)
	}
	switch a.r.Kind {
	case api.SAccept:
		return m.accept(m.entries[i].port)
	case api.SClose:
		m.table.Silence(m.entries[i].port)
		m.drop(0, a.r.FD)
		return api.Done{}, true
	case api.SStat:
		return api.Done{N: api.Listen}, true
	}
	return failed(0, api.ErrShape), true
}

func (m *slow) listen(port int) api.Done {
	fd := m.free()
	if fd == most {
		return failed(0, api.ErrFull)
	}
	if e := m.table.Listen(port); e != api.OK {
		return failed(0, e)
	}
	m.entries = append(m.entries, entry{fd: fd, port: port})
	return api.Done{FD: fd}
}

func (m *slow) accept(port int) (api.Done, bool) {
	fd := m.free()
	if fd == most {
		return failed(0, api.ErrFull), true
	}
	number, ok := m.table.Accept(port)
	if ok {
		m.entries = append(m.entries, entry{fd: fd, number: number})
		return api.Done{FD: fd}, true
	}
	return api.Done{}, false
}

func (m *slow) connect(a *asked, now int) (api.Done, bool) {
	if !a.opened {
		fd := m.free()
		if fd == most {
			return failed(0, api.ErrFull), true
		}
		number, out, e := m.table.Connect(a.r.IP, a.r.Port, now)
		if e != api.OK {
			return failed(0, e), true
		}
		m.sends(out)
		a.opened, a.socket = true, entry{fd: fd, number: number}
		m.entries = append(m.entries, a.socket)
	}
	if !slices.Contains(m.entries, a.socket) {
		return failed(0, api.ErrNone), true
	}
	state, e, _ := m.table.State(a.socket.number)
	if state == api.Closed && e == api.OK {
		e = api.ErrState
	}
	if state == api.Closed {
		m.drop(a.socket.number, a.socket.fd)
		return failed(0, e), true
	}
	if state == api.SynSent || state == api.SynRcvd {
		return api.Done{}, false
	}
	return api.Done{FD: a.socket.fd}, true
}

// answerOf is what answers a request to a socket of a connection.
func (m *slow) answerOf(s entry, a *asked, now int) (d api.Done, ok bool) {
	switch a.r.Kind {
	case api.SRead:
		if a.r.N < 1 {
			return failed(0, api.ErrRange), true
		}
		data, out, e := m.table.Read(s.number, a.r.N, now)
		m.sends(out)
		return api.Done{Code: e, N: len(data), Data: data}, e != api.OK || data != ""
	case api.SWrite:
		n, out, e := m.table.Write(s.number, a.r.Data[a.written:], now)
		m.sends(out)
		a.written += n
		if e == api.ErrFull {
			e = api.OK
		}
		return api.Done{Code: e, N: a.written}, e != api.OK || a.written == len(a.r.Data)
	case api.SShut:
		out, e := m.table.Close(s.number, now)
		m.sends(out)
		return failed(0, e), true
	case api.SClose:
		out, _ := m.table.Close(s.number, now)
		m.sends(out)
		m.drop(s.number, s.fd)
		return api.Done{}, true
	case api.SAbort:
		out, _ := m.table.Abort(s.number)
		m.sends(out)
		m.drop(s.number, s.fd)
		return api.Done{}, true
	case api.SStat:
		state, _, _ := m.table.State(s.number)
		return api.Done{N: state}, true
	}
	return failed(0, api.ErrShape), true
}

// sent is what went out since it was asked last.
func (m *slow) sent() []api.Out {
	out := m.out
	m.out = nil
	return out
}

func (m *slow) ask(r api.Request, now int) []api.Done {
	if r.Kind < 1 || r.Kind > 9 {
		return did(failed(r.Tag, api.ErrForm))
	}
	if len(m.asks) == most {
		return did(failed(r.Tag, api.ErrLong))
	}
	m.asks = append(m.asks, &asked{r: r})
	return m.look(now)
}

func (m *slow) take(from int, s api.Segment, now int) []api.Done {
	_, out := m.table.Take(from, s, now)
	m.sends(out)
	return m.look(now)
}

func (m *slow) tick(now int) []api.Done {
	m.sends(m.table.Tick(now))
	return m.look(now)
}

// both is a box, and the slow one beside it: each call goes to both, and is looked at.
type both struct {
	side
	m    *slow
	came map[string]int
}

// told looks at what a call told, and at all that can be asked behind it.
func (b *both) told(what string, done []api.Done, out []api.Out, want []api.Done) []api.Out {
	b.t.Helper()
	b.is(what, done, out, want, b.m.sent())
	var fds, tags []int
	for fd := range most {
		if b.m.at(fd) >= 0 {
			fds = append(fds, fd)
		}
	}
	for _, a := range b.m.asks {
		tags = append(tags, a.r.Tag)
	}
	b.fds(fds...)
	b.waiting(tags...)
	at, ok := b.m.table.Due()
	if x, some := b.x.Due(); x != at || some != ok {
		b.t.Fatalf("Due: %d, %v, want %d, %v", x, some, at, ok)
	}
	return out
}

// names are for counting what came to pass.
var names = [...]string{"none", "listen", "accept", "connect", "read", "write", "shut", "close", "abort", "stat"}

// counts counts what requests came to; waited are those that waited ahead of it.
func (b *both) counts(done []api.Done, waited []*asked) {
	for i, d := range done {
		for _, a := range waited {
			if a.r.Tag != d.Tag {
				continue
			}
			b.came[names[a.r.Kind]+" late"]++
			if d.Code != api.OK {
				b.came[names[a.r.Kind]+" fails late"]++
			}
			if d.Code != api.OK && d.N > 0 {
				b.came["write fails in the midst"]++
			}
			if i > 0 {
				b.came["looked at again"]++
			}
		}
	}
}

func (b *both) ask(r api.Request, now int) []api.Out {
	b.t.Helper()
	waited := b.m.asks
	done, out := b.x.Ask(r, now)
	out = b.told("Ask", done, out, b.m.ask(r, now))
	b.counts(done, waited)
	for _, d := range done {
		if d.Tag == r.Tag && d.Code == api.OK {
			b.came[names[r.Kind]+" at once"]++
		}
		if d.Tag == r.Tag && d.Code != api.OK && r.Kind > 0 && r.Kind < len(names) {
			b.came[names[r.Kind]+" fails"]++
		}
		switch d.Code {
		case api.ErrLong:
			b.came["too many"]++
		case api.ErrFull:
			b.came["full"]++
		}
	}
	return out
}

func (b *both) take(from int, s api.Segment, now int) []api.Out {
	b.t.Helper()
	waited := b.m.asks
	done, out := b.x.Take(from, s, now)
	out = b.told("Take", done, out, b.m.take(from, s, now))
	b.counts(done, waited)
	return out
}

func (b *both) tick(now int) []api.Out {
	b.t.Helper()
	waited := b.m.asks
	done, out := b.x.Tick(now)
	out = b.told("Tick", done, out, b.m.tick(now))
	b.counts(done, waited)
	return out
}

func bothOf(t *testing.T, s table.Setup, ip int, came map[string]int) *both {
	t.Helper()
	return &both{madeAt(t, s, ip), slowOf(s, ip), came}
}
