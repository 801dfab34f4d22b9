package conn

import (
	"sternpost/api"
	"sternpost/recvq"
	"sternpost/seg"
	"sternpost/seq"
)

// Take hears a segment of the other side.
func (c *Conn) Take(s api.Segment, now int) []api.Segment {
	c.goTo(now)
	if seg.Check(s) != api.OK || s.From != c.ends.FarPort || s.To != c.ends.Port {
		return nil
	}
	switch c.state {
	case api.Closed:
		return nil
	case api.SynSent:
		return c.takeFirst(s)
	}
	if out, away := c.turnAway(s); away {
		return out
	}
	switch c.state {
	case api.SynRcvd:
		if !ahead(c.iss, s.Ack) || ahead(c.sent(), s.Ack) {
			return []api.Segment{c.reset(s.Ack)}
		}
		c.stand()
		fallthrough
	default:
		return c.takeOn(s)
	}
}

// asks tells whether a segment asks for a connection.
func asks(s api.Segment) bool {
	return seg.Check(s) == api.OK && seg.Has(s, api.SYN) && s.Flags&(api.ACK|api.RST|api.FIN) == 0
}

// takeFirst hears a segment while nothing is known of the other side.
func (c *Conn) takeFirst(s api.Segment) []api.Segment {
	acks, resets := seg.Has(s, api.ACK), seg.Has(s, api.RST)
	switch {
	case acks && s.Ack != after(c.iss, 1) && !resets:
		return []api.Segment{c.reset(s.Ack)}
	case acks && s.Ack != after(c.iss, 1):
		return nil
	case resets && acks:
		c.end(api.ErrReset)
		return nil
	case resets || !seg.Has(s, api.SYN):
		return nil
	}
	c.takeSyn(s)
	if !acks {
		c.state = api.SynRcvd
		c.sample = sample{}
		return []api.Segment{c.syn()}
	}
	c.state = api.Estab
	c.takeAck(s)
	return append([]api.Segment{c.acknowledgement()}, c.sendOn()...)
}

// takeSyn hears from where on the other side's bytes begin, and what it asks for.
func (c *Conn) takeSyn(s api.Segment) {
	// It can't be refused: Check has looked at the room.
	c.in, _ = recvq.New(after(s.Seq, 1), c.setup.Room)
	c.window, c.told = s.Window, told{s.Seq, s.Ack}
	c.sackOK = s.Opts.SackOK
	if s.Opts.MSS != 0 {
		c.agree(s.Opts.MSS)
	}
}

// turnAway tells whether a segment has nothing to say to a connection that knows of the other side, or only ends it; and what it is answered with then.
func (c *Conn) turnAway(s api.Segment) (out []api.Segment, away bool) {
	fits, resets := c.fits(s), seg.Has(s, api.RST)
	switch {
	case !fits && resets:
		return nil, true
	case resets && s.Seq == c.expected():
		c.end(api.ErrReset)
		return nil, true
	case !fits, resets, seg.Has(s, api.SYN):
		return []api.Segment{c.acknowledgement()}, true
	}
	return nil, !seg.Has(s, api.ACK)
}

// fits tells whether a segment has a number that may come now.
func (c *Conn) fits(s api.Segment) bool {
	long := seg.Length(s)
	if long == 0 {
		return c.mayCome(s.Seq) || s.Seq == c.expected()
	}
	return c.mayCome(s.Seq) || c.mayCome(after(s.Seq, long-1))
}

// mayCome tells whether a number lies in the window.
func (c *Conn) mayCome(n int) bool {
	in, _ := seq.In(n, c.expected(), c.in.Window())
	return in
}

// stand hears that the other side has its SYN.
func (c *Conn) stand() {
	c.state = api.Estab
	if c.finAsked {
		c.state = api.FinWait1
	}
}

// takeOn hears a segment of a connection that stands.
func (c *Conn) takeOn(s api.Segment) []api.Segment {
	if ahead(c.sent(), s.Ack) {
		return []api.Segment{c.acknowledgement()}
	}
	out := c.takeAck(s)
	if c.finAcked() && c.finish() {
		return out
	}
	atOnce := c.takeData(s)
	more := c.sendOn()
	if atOnce && len(more) == 0 {
		// What was sent again ahead of the data does not acknowledge them.
		more = []api.Segment{c.acknowledgement()}
	}
	return append(out, more...)
}

// takeAck hears what is acknowledged, what was received apart, and the other side's window; what is missing is sent again, if it is known to be lost.
func (c *Conn) takeAck(s api.Segment) []api.Segment {
	var lost bool
	switch {
	case ahead(c.acked, s.Ack):
		lost = c.advance(s.Ack)
	case s.Ack == c.acked && seg.Length(s) == 0 && s.Window == c.window && c.flight() > 0:
		lost = c.valve.Same(c.flight(), c.sent())
	}
	var out []api.Segment
	if lost && c.acked != c.sent() {
		c.sample = sample{}
		out = []api.Segment{c.missing()}
	}
	if c.sackOK {
		c.out.Apart(s.Opts.Sacks...)
	}
	c.takeWindow(s)
	return out
}

// advance lets go of what is acknowledged, and tells whether what is missing is known to be lost.
func (c *Conn) advance(ack int) (lost bool) {
	_, next, _ := c.out.State()
	if ahead(ack, next) {
		next = ack
	}
	// It can't be refused: a FIN is not of the queue, and all else lies in it.
	n, _ := c.out.Ack(next)
	c.acked = ack
	if c.sample.underWay && !ahead(ack, c.sample.number) {
		// Nor can this: no tick is below one ahead.
		c.rto.Sample(min(c.now-c.sample.begun, mostTicks))
		c.sample = sample{}
	}
	c.tries = 0
	// It is set anew once the segment is heard, if something is not acknowledged still.
	c.clocks[sendingAgain] = off
	return c.valve.Acked(n, ack)
}

// takeWindow hears the other side's window, if the segment did not come late.
func (c *Conn) takeWindow(s api.Segment) {
	late := ahead(s.Seq, c.told.seq) || s.Seq == c.told.seq && ahead(s.Ack, c.told.ack)
	if !late {
		c.window, c.told = s.Window, told{s.Seq, s.Ack}
	}
	if c.window == 0 {
		// It answers, so it is there: one asks as long as it likes.
		c.tries = 0
	}
}

// finAcked tells whether the other side has all that it can get.
func (c *Conn) finAcked() bool { return c.finSent && c.acked == c.sent() }

// finish hears that its FIN is acknowledged, and tells whether that ends it.
func (c *Conn) finish() (ended bool) {
	switch c.state {
	case api.FinWait1:
		c.state = api.FinWait2
	case api.Closing:
		c.linger()
	case api.LastAck:
		c.end(api.OK)
		return true
	}
	return false
}

// takeData hears data, and the other side's FIN, and tells whether these are to be acknowledged at once.
func (c *Conn) takeData(s api.Segment) (atOnce bool) {
	if seg.Length(s) == 0 {
		return false
	}
	wasApart := c.apart()
	ended := c.put(s)
	if c.state == api.TimeWait {
		c.set(lingering, c.setup.Linger)
	}
	if ended || seg.Has(s, api.FIN) || wasApart || c.apart() || c.clocks[acknowledging] != off || c.setup.Delay == 0 {
		return true
	}
	c.set(acknowledging, c.setup.Delay)
	return false
}

// apart tells whether bytes came behind such as are missing.
func (c *Conn) apart() bool { return len(c.in.Apart(1)) > 0 }

// put puts data into the queue, as long as such may come, and tells whether the other side's FIN was taken by that.
func (c *Conn) put(s api.Segment) (ended bool) {
	switch c.state {
	case api.Estab, api.FinWait1, api.FinWait2:
	default:
		return false
	}
	// It can't be refused: a segment that may be has not too many bytes.
	c.in.Put(s.Seq, s.Data)
	if seg.Has(s, api.FIN) && !c.farFin.came {
		c.farFin = fin{came: true, number: after(s.Seq, len(s.Data))}
	}
	if !c.finTaken() {
		return false
	}
	switch c.state {
	case api.Estab:
		c.state = api.CloseWait
	case api.FinWait1:
		c.state = api.Closing
	case api.FinWait2:
		c.linger()
	}
	return true
}

// linger waits for what the other side may send again. Its own clock of that is off: all that was sent is acknowledged.
func (c *Conn) linger() {
	c.state = api.TimeWait
	c.set(lingering, c.setup.Linger)
}
