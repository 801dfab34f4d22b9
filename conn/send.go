package conn

import (
	"sternpost/api"
	"sternpost/seq"
)

const mostSacks = 3

// start sends its SYN for the first time.
func (c *Conn) start() []api.Segment {
	c.measure()
	c.wait()
	return []api.Segment{c.syn()}
}

// sendOn sends what may be sent.
func (c *Conn) sendOn() []api.Segment {
	switch c.state {
	case api.Estab, api.CloseWait, api.FinWait1, api.Closing, api.LastAck:
	default:
		return nil
	}
	var out []api.Segment
	for n := c.allowed(); n > 0; n = c.allowed() {
		out = append(out, c.next(n))
	}
	if c.finAsked && !c.finSent && c.unsent() == 0 {
		out = append(out, c.next(0))
	}
	if c.clocks[sendingAgain] == off && c.waits() {
		c.wait()
	}
	return out
}

// allowed is how many bytes the next segment may have, if any. A small one waits for an acknowledgement: more may be written, or there may be more room for them.
func (c *Conn) allowed() int {
	n := min(c.unsent(), c.mss, min(c.window, c.valve.Window())-c.flight())
	if n < c.mss && c.flight() > 0 && !c.finAsked {
		return 0
	}
	return n
}

// waits tells whether the other side owes an answer: an acknowledgement, or that there is room for bytes.
func (c *Conn) waits() bool {
	_, _, long := c.out.State()
	return c.acked != c.sent() || c.window == 0 && long > 0
}

// next is the next n bytes, with the FIN if that follows.
func (c *Conn) next(n int) api.Segment {
	at, data := c.out.Next(c.flight()+n, n)
	flags := 0
	if c.unsent() == 0 {
		flags |= pushed(data)
		if c.finAsked {
			flags |= api.FIN
			c.finSent = true
		}
	}
	if !c.sample.underWay {
		c.measure()
	}
	return c.segment(flags, at, data)
}

// missing is what the other side lacks first, and nothing but a byte that it has, if it lacks none.
func (c *Conn) missing() api.Segment {
	at, data := c.out.Hole(c.mss)
	if data == "" && c.flight() > 0 {
		at, data = c.out.Probe()
	}
	flags := pushed(data)
	_, next, _ := c.out.State()
	if c.finSent && after(at, len(data)) == next {
		flags |= api.FIN
	}
	return c.segment(flags, at, data)
}

// probe is a byte for which there may be no room, that makes the other side answer.
func (c *Conn) probe() api.Segment {
	at, data := c.out.Probe()
	return c.segment(pushed(data), at, data)
}

// syn is its SYN; it acknowledges the other side's, if that was taken.
func (c *Conn) syn() api.Segment {
	s := c.segment(api.SYN, c.iss, "")
	s.Opts = api.Opts{MSS: c.setup.MSS, SackOK: true}
	return s
}

// acknowledgement tells what was received.
func (c *Conn) acknowledgement() api.Segment {
	s := c.segment(0, c.sent(), "")
	if c.sackOK {
		s.Opts.Sacks = c.in.Apart(mostSacks)
	}
	return s
}

// reset tells that there is no such connection, without a word of what was received.
func (c *Conn) reset(at int) api.Segment {
	return api.Segment{From: c.ends.Port, To: c.ends.FarPort, Seq: at, Flags: api.RST, Window: c.in.Window()}
}

// segment is what it sends otherwise: with what was received, once the other side's SYN was taken.
func (c *Conn) segment(flags, at int, data string) api.Segment {
	s := api.Segment{From: c.ends.Port, To: c.ends.FarPort, Seq: at, Flags: flags, Window: c.in.Window(), Data: data}
	if c.state != api.SynSent {
		s.Flags |= api.ACK
		s.Ack = c.expected()
		c.clocks[acknowledging] = off
	}
	return s
}

// measure begins a sample of the number behind all that was sent.
func (c *Conn) measure() {
	c.sample = sample{underWay: true, number: c.sent(), begun: c.now}
}

// flight is how many bytes were sent, and are not acknowledged.
func (c *Conn) flight() int {
	left, next, _ := c.out.State()
	n, _ := seq.Distance(left, next)
	return n
}

// unsent is how many bytes were not sent.
func (c *Conn) unsent() int {
	_, _, long := c.out.State()
	return long - c.flight()
}

// pushed is the flag of bytes behind which none is left; there may be none of them, either.
func pushed(data string) int {
	if data == "" {
		return 0
	}
	return api.PSH
}
