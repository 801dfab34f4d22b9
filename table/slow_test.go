package table_test

import (
	"slices"

	"sternpost/api"
	"sternpost/conn"
	"sternpost/seg"
	"sternpost/table"
)

// entry is a connection that there is, or was.
type entry struct {
	number      int
	ends        api.Ends
	c           *conn.Conn
	held, waits bool
}

func (r *entry) state() int {
	state, _ := r.c.State()
	return state
}

func (r *entry) gone() bool { return r.state() == api.Closed && !r.held }

func (r *entry) out(l []api.Segment) []api.Out { return to(r.ends.FarIP, l...) }

// slow is a table as the words say it, word by word: all connections that ever were are in one list, and looked through from the front on.
type slow struct {
	set   table.Setup
	ip    int
	ports []int
	all   []*entry
}

// all that have a number, by numbers.
func (m *slow) there() (l []*entry) {
	for _, r := range m.all {
		if !r.gone() {
			l = append(l, r)
		}
	}
	return l
}

// some is those of a port that wait.
func (m *slow) some(port int) (l []*entry) {
	for _, r := range m.there() {
		if r.waits && r.ends.Port == port {
			l = append(l, r)
		}
	}
	return l
}

func (m *slow) between(ends api.Ends) *entry {
	for _, r := range m.there() {
		if r.ends == ends {
			return r
		}
	}
	return nil
}

func (m *slow) entry(number int) *entry {
	for _, r := range m.there() {
		if r.number == number {
			return r
		}
	}
	return nil
}

func (m *slow) held(number int) *entry {
	if r := m.entry(number); r != nil && r.held {
		return r
	}
	return nil
}

func (m *slow) add(r *entry) int {
	r.number = len(m.all) + 1
	m.all = append(m.all, r)
	return r.number
}

func (m *slow) listen(port int) api.Code {
	if port < 1 || port > mostPort {
		return api.ErrRange
	}
	if slices.Contains(m.ports, port) {
		return api.ErrUsed
	}
	m.ports = append(m.ports, port)
	return api.OK
}

func (m *slow) silence(port int) api.Code {
	i := slices.Index(m.ports, port)
	if i < 0 {
		return api.ErrNone
	}
	m.ports = slices.Delete(m.ports, i, i+1)
	for _, r := range m.some(port) {
		r.c.Abort()
	}
	return api.OK
}

func (m *slow) connect(farIP, farPort, now int) (int, []api.Out, api.Code) {
	if farIP < 0 || farIP > word || farPort < 1 || farPort > mostPort || now < 0 || now > api.MaxTick {
		return 0, nil, api.ErrRange
	}
	ends := api.Ends{IP: m.ip, Port: firstOwn, FarIP: farIP, FarPort: farPort}
	for slices.Contains(m.ports, ends.Port) || m.between(ends) != nil {
		ends.Port++
	}
	if ends.Port > mostPort || len(m.there()) == m.set.Room {
		return 0, nil, api.ErrFull
	}
	c, l, _ := conn.Open(m.set.Conn, ends, first(m.set.Key, ends, now), now)
	r := &entry{ends: ends, c: c, held: true}
	return m.add(r), r.out(l), api.OK
}

func (m *slow) take(from int, s api.Segment, now int) (int, []api.Out) {
	if from < 0 || from > word || seg.Check(s) != api.OK {
		return 0, nil
	}
	ends := api.Ends{IP: m.ip, Port: s.To, FarIP: from, FarPort: s.From}
	if r := m.between(ends); r != nil {
		return r.number, r.out(r.c.Take(s, now))
	}
	if slices.Contains(m.ports, s.To) && s.Flags&(api.SYN|api.ACK|api.RST|api.FIN) == api.SYN {
		if len(m.some(s.To)) == m.set.Backlog || len(m.there()) == m.set.Room || s.From == 0 {
			return 0, nil
		}
		at := min(max(now, 0), api.MaxTick)
		c, l, _ := conn.Accept(m.set.Conn, ends, first(m.set.Key, ends, at), s, at)
		r := &entry{ends: ends, c: c, waits: true}
		return m.add(r), r.out(l)
	}
	if r, ok := seg.Reset(s); ok {
		return 0, to(from, r)
	}
	return 0, nil
}

func (m *slow) tick(now int) (out []api.Out) {
	for _, r := range m.there() {
		out = append(out, r.out(r.c.Tick(now))...)
	}
	return out
}

func (m *slow) accept(port int) (int, bool) {
	for _, r := range m.some(port) {
		if r.state() != api.SynRcvd {
			r.held, r.waits = true, false
			return r.number, true
		}
	}
	return 0, false
}

func (m *slow) write(number int, data string, now int) (int, []api.Out, api.Code) {
	r := m.held(number)
	if r == nil {
		return 0, nil, api.ErrNone
	}
	n, l, e := r.c.Write(data, now)
	return n, r.out(l), e
}

func (m *slow) read(number, most, now int) (string, []api.Out, api.Code) {
	r := m.held(number)
	if r == nil {
		return "", nil, api.ErrNone
	}
	data, l, e := r.c.Read(most, now)
	return data, r.out(l), e
}

func (m *slow) close(number, now int) ([]api.Out, api.Code) {
	r := m.held(number)
	if r == nil {
		return nil, api.ErrNone
	}
	l, e := r.c.Close(now)
	return r.out(l), e
}

func (m *slow) abort(number int) ([]api.Out, api.Code) {
	r := m.held(number)
	if r == nil {
		return nil, api.ErrNone
	}
	return r.out(r.c.Abort()), api.OK
}

func (m *slow) drop(number int) api.Code {
	r := m.held(number)
	if r == nil {
		return api.ErrNone
	}
	r.held = false
	return api.OK
}

func (m *slow) due() (least int, some bool) {
	for _, r := range m.there() {
		if at, ok := r.c.Due(); ok && (!some || at < least) {
			least, some = at, true
		}
	}
	return least, some
}
