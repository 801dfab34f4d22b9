package conn_test

import (
	"sternpost/api"
	"sternpost/cong"
	"sternpost/conn"
	"sternpost/rto"
	"sternpost/seg"
)

// off is a clock that is not set.
const off = -1

// slow is a connection as the words say it, word by word: its bytes are counted from 0 on, and all of them are kept.
type slow struct {
	set   conn.Setup
	ends  api.Ends
	state int
	why   api.Code
	now   int

	iss                 int
	text                string // all that was written
	ackedLong, sentLong int    // how many bytes of it
	apart               map[int]bool
	synAcked, finAcked  bool
	owner, finSent      bool // its owner has closed it

	irs      int          // -1: the other side's SYN was not taken
	got      map[int]byte // behind those in order
	order    string       // all that was received in order
	read     int          // how many bytes of it
	fin      int          // behind how many bytes the other side's FIN is; -1: none came
	finTaken bool

	mss              int
	sackOK           bool
	window           int
	toldSeq, toldAck int

	valve              *cong.Valve
	rto                *rto.Rto
	sampling           bool
	sampled, sampledAt int
	tries              int

	lingering, acknowledging, again int
}

func go32(n int) int { return int(uint32(n)) }

// before tells whether b is ahead of a: half a round on is below 0 in 32 bits with a sign.
func before(a, b int) bool { return int32(uint32(b)-uint32(a)) > 0 }

func slowNew(set conn.Setup, ends api.Ends, iss, now int) *slow {
	m := &slow{set: set, ends: ends, state: api.SynSent, now: now, iss: iss, irs: -1, fin: -1, lingering: off, acknowledging: off, again: off,
		apart: map[int]bool{}, got: map[int]byte{}}
	m.rto, _ = rto.New(set.First, set.Least, set.Most)
	return m
}

func slowOpen(set conn.Setup, ends api.Ends, iss, now int) (*slow, []api.Segment) {
	m := slowNew(set, ends, iss, now)
	return m, m.first()
}

func slowAccept(set conn.Setup, ends api.Ends, iss int, syn api.Segment, now int) (*slow, []api.Segment) {
	m := slowNew(set, ends, iss, now)
	m.takesSyn(syn)
	m.state = api.SynRcvd
	return m, m.first()
}

func (m *slow) first() []api.Segment {
	m.sampling, m.sampled, m.sampledAt = true, m.sentTo(), m.now
	m.again = m.now + m.rto.Wait()
	return []api.Segment{m.syn()}
}

func (m *slow) fork() *slow {
	f := *m
	f.apart, f.got = map[int]bool{}, map[int]byte{}
	for i := range m.apart {
		f.apart[i] = true
	}
	for i, b := range m.got {
		f.got[i] = b
	}
	f.rto = m.rto.Fork()
	if m.valve != nil {
		f.valve = m.valve.Fork()
	}
	return &f
}

func (m *slow) ackedTo() int {
	n := m.iss + m.ackedLong
	if m.synAcked {
		n++
	}
	if m.finAcked {
		n++
	}
	return go32(n)
}

func (m *slow) sentTo() int {
	n := m.iss + 1 + m.sentLong
	if m.finSent {
		n++
	}
	return go32(n)
}

func (m *slow) expected() int {
	if m.irs < 0 {
		return 0
	}
	n := m.irs + 1 + len(m.order)
	if m.finTaken {
		n++
	}
	return go32(n)
}

func (m *slow) room() int { return m.set.Room - (len(m.order) - m.read) }

func (m *slow) inWindow(n int) bool { return go32(n-m.expected()) < m.room() }

func (m *slow) flight() int { return m.sentLong - m.ackedLong }

func (m *slow) bare(flags, at int) api.Segment {
	return api.Segment{From: m.ends.Port, To: m.ends.FarPort, Seq: go32(at), Flags: flags, Window: m.room()}
}

func (m *slow) says(flags, at int, data string) api.Segment {
	s := m.bare(flags, at)
	s.Data = data
	if m.irs >= 0 {
		s.Flags |= api.ACK
		s.Ack = m.expected()
		m.acknowledging = off
	}
	return s
}

func (m *slow) syn() api.Segment {
	s := m.says(api.SYN, m.iss, "")
	s.Opts.MSS, s.Opts.SackOK = m.set.MSS, true
	return s
}

func (m *slow) ack() api.Segment {
	s := m.says(0, m.sentTo(), "")
	if !m.sackOK {
		return s
	}
	for i := len(m.order); i < len(m.order)+m.room(); i++ {
		if _, ok := m.got[i]; !ok {
			continue
		}
		from, to := go32(m.irs+1+i), go32(m.irs+2+i)
		l := len(s.Opts.Sacks)
		switch {
		case l > 0 && s.Opts.Sacks[l-1].To == from:
			s.Opts.Sacks[l-1].To = to
		case l < 3:
			s.Opts.Sacks = append(s.Opts.Sacks, api.Range{From: from, To: to})
		default:
			return s
		}
	}
	return s
}

func (m *slow) closed(why api.Code) []api.Segment {
	m.state, m.why = api.Closed, why
	m.lingering, m.acknowledging, m.again = off, off, off
	return nil
}

func (m *slow) pass(now int) {
	if now > api.MaxTick {
		now = api.MaxTick
	}
	if now > m.now {
		m.now = now
	}
}

func (m *slow) takesSyn(s api.Segment) {
	m.irs, m.window, m.toldSeq, m.toldAck, m.sackOK = s.Seq, s.Window, s.Seq, s.Ack, s.Opts.SackOK
	m.mss = 536
	if s.Opts.MSS > 0 {
		m.mss = s.Opts.MSS
	}
	if m.set.MSS < m.mss {
		m.mss = m.set.MSS
	}
	m.valve, _ = cong.New(m.mss)
}

func (m *slow) take(s api.Segment, now int) []api.Segment {
	m.pass(now)
	if m.state == api.Closed || seg.Check(s) != api.OK || s.From != m.ends.FarPort || s.To != m.ends.Port {
		return nil
	}
	if m.state == api.SynSent {
		return m.takeSynSent(s)
	}
	// (1)
	long := seg.Length(s)
	fits := long == 0 && (m.inWindow(s.Seq) || m.room() == 0 && s.Seq == m.expected()) ||
		long != 0 && (m.inWindow(s.Seq) || m.inWindow(s.Seq+long-1))
	if !fits {
		if s.Flags&api.RST != 0 {
			return nil
		}
		return []api.Segment{m.ack()}
	}
	// (2)
	if s.Flags&api.RST != 0 {
		if s.Seq == m.expected() {
			return m.closed(api.ErrReset)
		}
		return []api.Segment{m.ack()}
	}
	// (3)
	if s.Flags&api.SYN != 0 {
		return []api.Segment{m.ack()}
	}
	// (4)
	if s.Flags&api.ACK == 0 {
		return nil
	}
	// (5)
	if m.state == api.SynRcvd {
		if !before(m.iss, s.Ack) || before(m.sentTo(), s.Ack) {
			return []api.Segment{m.bare(api.RST, s.Ack)}
		}
		m.state = api.Estab
		if m.owner {
			m.state = api.FinWait1
		}
	}
	return m.takeStanding(s)
}

func (m *slow) takeSynSent(s api.Segment) []api.Segment {
	// (1)
	if s.Flags&api.ACK != 0 && s.Ack != go32(m.iss+1) {
		if s.Flags&api.RST != 0 {
			return nil
		}
		return []api.Segment{m.bare(api.RST, s.Ack)}
	}
	// (2)
	if s.Flags&api.RST != 0 {
		if s.Flags&api.ACK != 0 {
			return m.closed(api.ErrReset)
		}
		return nil
	}
	// (3)
	if s.Flags&api.SYN == 0 {
		return nil
	}
	// (4)
	m.takesSyn(s)
	if s.Flags&api.ACK == 0 {
		m.state = api.SynRcvd
		m.sampling = false
		return []api.Segment{m.syn()}
	}
	m.state = api.Estab
	m.acknowledges(s)
	l := []api.Segment{m.ack()}
	return append(l, m.maySend()...)
}

func (m *slow) takeStanding(s api.Segment) []api.Segment {
	// (6)
	if before(m.sentTo(), s.Ack) {
		return []api.Segment{m.ack()}
	}
	out := m.acknowledges(s)
	// (7)
	if m.finAcked {
		switch m.state {
		case api.FinWait1:
			m.state = api.FinWait2
		case api.Closing:
			m.timeWait()
		case api.LastAck:
			return m.closed(api.OK)
		}
	}
	// (8)
	apart := len(m.got) > 0
	taken := false
	if m.state == api.Estab || m.state == api.FinWait1 || m.state == api.FinWait2 {
		taken = m.receives(s)
	}
	// (9)
	now := false
	if seg.Length(s) > 0 {
		if m.state == api.TimeWait {
			m.lingering = m.now + m.set.Linger
		}
		now = taken || s.Flags&api.FIN != 0 || len(m.got) > 0 || apart || m.acknowledging != off || m.set.Delay == 0
		if !now {
			m.acknowledging = m.now + m.set.Delay
		}
	}
	// (10)
	l := m.maySend()
	if now && len(l) == 0 {
		l = append(l, m.ack())
	}
	return append(out, l...)
}

func (m *slow) timeWait() {
	m.state = api.TimeWait
	m.lingering = m.now + m.set.Linger
	m.again = off
}

// acknowledges is (6), of an Ack that is not ahead of sent up to.
func (m *slow) acknowledges(s api.Segment) (out []api.Segment) {
	again := false
	if before(m.ackedTo(), s.Ack) {
		bytes := go32(s.Ack - m.ackedTo())
		if !m.synAcked {
			m.synAcked = true
			bytes--
		}
		if m.finSent && s.Ack == m.sentTo() {
			m.finAcked = true
			bytes--
		}
		m.ackedLong += bytes
		if m.sampling && !before(s.Ack, m.sampled) {
			ticks := m.now - m.sampledAt
			if ticks > 1<<20 {
				ticks = 1 << 20
			}
			m.rto.Sample(ticks)
			m.sampling = false
		}
		m.tries = 0
		m.again = off
		if m.ackedTo() != m.sentTo() {
			m.again = m.now + m.rto.Wait()
		}
		again = m.valve.Acked(bytes, s.Ack)
	} else if s.Ack == m.ackedTo() && seg.Length(s) == 0 && s.Window == m.window && m.flight() > 0 {
		again = m.valve.Same(m.flight(), m.sentTo())
	}
	if again && m.ackedTo() != m.sentTo() && !m.finAcked {
		out = append(out, m.missing())
		m.sampling = false
	}
	if m.sackOK {
		for _, r := range s.Opts.Sacks {
			left := m.iss + 1 + m.ackedLong
			from, to := go32(r.From-left), go32(r.To-left)
			if from > m.flight() || to > m.flight() {
				continue
			}
			for i := from; i < to; i++ {
				m.apart[m.ackedLong+i] = true
			}
		}
	}
	if !before(s.Seq, m.toldSeq) && (s.Seq != m.toldSeq || !before(s.Ack, m.toldAck)) {
		m.window, m.toldSeq, m.toldAck = s.Window, s.Seq, s.Ack
	}
	if m.window == 0 {
		m.tries = 0
	}
	return out
}

// receives is (8).
func (m *slow) receives(s api.Segment) (taken bool) {
	next, end := len(m.order), len(m.order)+m.room()
	at := next + int(int32(uint32(s.Seq)-uint32(m.irs+1+next)))
	for i := range len(s.Data) {
		if _, ok := m.got[at+i]; !ok && at+i >= next && at+i < end {
			m.got[at+i] = s.Data[i]
		}
	}
	for b, ok := m.got[next]; ok; b, ok = m.got[next] {
		delete(m.got, next)
		m.order += string([]byte{b})
		next++
	}
	if s.Flags&api.FIN != 0 && m.fin < 0 {
		m.fin = at + len(s.Data)
	}
	if m.fin != next {
		return false
	}
	m.finTaken = true
	switch m.state {
	case api.Estab:
		m.state = api.CloseWait
	case api.FinWait1:
		m.state = api.Closing
	case api.FinWait2:
		m.timeWait()
	}
	return true
}

func (m *slow) maySend() (out []api.Segment) {
	switch m.state {
	case api.Estab, api.CloseWait, api.FinWait1, api.Closing, api.LastAck:
	default:
		return nil
	}
	for m.sentLong < len(m.text) {
		n := len(m.text) - m.sentLong
		for _, most := range []int{m.mss, m.window - m.flight(), m.valve.Window() - m.flight()} {
			if most < n {
				n = most
			}
		}
		if n < 1 || n < m.mss && m.flight() > 0 && !m.owner {
			break
		}
		at, data := m.iss+1+m.sentLong, m.text[m.sentLong:m.sentLong+n]
		m.sentLong += n
		flags := 0
		if m.sentLong == len(m.text) {
			flags = api.PSH
			if m.owner {
				flags, m.finSent = api.PSH|api.FIN, true
			}
		}
		out = append(out, m.sends(flags, at, data))
	}
	if m.owner && m.sentLong == len(m.text) && !m.finSent {
		at := m.sentTo()
		m.finSent = true
		out = append(out, m.sends(api.FIN, at, ""))
	}
	if m.again == off && (m.ackedTo() != m.sentTo() || m.window == 0 && len(m.text) > m.ackedLong) {
		m.again = m.now + m.rto.Wait()
	}
	return out
}

func (m *slow) sends(flags, at int, data string) api.Segment {
	if !m.sampling {
		m.sampling, m.sampled, m.sampledAt = true, m.sentTo(), m.now
	}
	return m.says(flags, at, data)
}

// missing is of 18.6: the hole, or the byte at the left, or the FIN.
func (m *slow) missing() api.Segment {
	from := m.ackedLong
	for from < m.sentLong && m.apart[from] {
		from++
	}
	to := from
	for to < m.sentLong && to < from+m.mss && !m.apart[to] {
		to++
	}
	if from == to && m.flight() > 0 {
		from, to = m.ackedLong, m.ackedLong+1
	}
	flags := 0
	if to > from {
		flags = api.PSH
	}
	if m.finSent && to == len(m.text) {
		flags |= api.FIN
	}
	return m.says(flags, m.iss+1+from, m.text[from:to])
}

func (m *slow) tick(now int) (out []api.Segment) {
	m.pass(now)
	if m.state == api.Closed {
		return nil
	}
	if m.lingering != off && m.lingering <= m.now {
		return m.closed(api.OK)
	}
	if m.acknowledging != off && m.acknowledging <= m.now {
		out = append(out, m.ack())
	}
	if m.again == off || m.again > m.now {
		return out
	}
	if m.tries == m.set.Tries {
		out = append(out, m.says(api.RST, m.sentTo(), ""))
		m.closed(api.ErrTime)
		return out
	}
	m.tries++
	m.sampling = false
	if m.flight() > 0 {
		m.valve.Late(m.flight())
	}
	switch {
	case m.state == api.SynSent || m.state == api.SynRcvd:
		out = append(out, m.syn())
	case m.ackedTo() != m.sentTo():
		out = append(out, m.missing())
	default:
		m.sentLong++
		out = append(out, m.says(api.PSH, m.iss+m.sentLong, m.text[m.sentLong-1:m.sentLong]))
	}
	m.rto.Back()
	m.again = m.now + m.rto.Wait()
	return out
}

func (m *slow) error() api.Code {
	if m.state == api.Closed && m.why != api.OK {
		return m.why
	}
	return api.ErrState
}

func (m *slow) write(data string, now int) (int, []api.Segment, api.Code) {
	switch m.state {
	case api.SynSent, api.SynRcvd, api.Estab, api.CloseWait:
	default:
		return 0, nil, m.error()
	}
	if m.owner {
		return 0, nil, m.error()
	}
	n := m.set.Room - (len(m.text) - m.ackedLong)
	if n == 0 && data != "" {
		return 0, nil, api.ErrFull
	}
	if len(data) < n {
		n = len(data)
	}
	m.pass(now)
	m.text += data[:n]
	return n, m.maySend(), api.OK
}

func (m *slow) reads(most, now int) (string, []api.Segment, api.Code) {
	there := len(m.order) - m.read
	switch {
	case there == 0 && m.finTaken:
		return "", nil, api.ErrEnd
	case there == 0 && m.state == api.Closed:
		return "", nil, m.error()
	}
	m.pass(now)
	least := m.set.Room / 2
	if m.set.MSS < least {
		least = m.set.MSS
	}
	if least < 1 {
		least = 1
	}
	was, n := m.room(), 0
	if most > 0 {
		n = most
	}
	if n > there {
		n = there
	}
	s := m.order[m.read : m.read+n]
	m.read += n
	if m.state != api.Closed && !m.finTaken && was < least && m.room() >= least {
		return s, []api.Segment{m.ack()}, api.OK
	}
	return s, nil, api.OK
}

func (m *slow) close(now int) ([]api.Segment, api.Code) {
	switch {
	case m.state == api.SynSent:
		m.pass(now)
		return m.closed(api.OK), api.OK
	case m.owner:
		return nil, m.error()
	case m.state == api.Estab:
		m.state = api.FinWait1
	case m.state == api.CloseWait:
		m.state = api.LastAck
	case m.state != api.SynRcvd:
		return nil, m.error()
	}
	m.pass(now)
	m.owner = true
	return m.maySend(), api.OK
}

func (m *slow) abort() []api.Segment {
	state := m.state
	if state == api.Closed {
		return nil
	}
	m.closed(api.ErrReset)
	switch state {
	case api.SynSent, api.Closing, api.LastAck, api.TimeWait:
		return nil
	}
	return []api.Segment{m.bare(api.RST, m.sentTo())}
}

func (m *slow) due() (at int, ok bool) {
	for _, x := range []int{m.lingering, m.acknowledging, m.again} {
		if x != off && (!ok || x < at) {
			at, ok = x, true
		}
	}
	return at, ok
}
