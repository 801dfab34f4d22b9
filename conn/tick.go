package conn

import "sternpost/api"

// The clocks, in the order in which a tick looks at them.
const (
	lingering = iota
	acknowledging
	sendingAgain
	allClocks
)

// off is where a clock stands that is not set: each is set some ticks ahead, and so never to 0.
const off = 0

// Tick does what is due.
func (c *Conn) Tick(now int) []api.Segment {
	c.goTo(now)
	var out []api.Segment
	for clock, at := range c.clocks {
		if at != off && at <= c.now && c.state != api.Closed {
			out = append(out, c.ring(clock)...)
		}
	}
	return out
}

// Due is the least tick at which a clock is due.
func (c *Conn) Due() (at int, ok bool) {
	for _, x := range c.clocks {
		if x != off && (!ok || x < at) {
			at, ok = x, true
		}
	}
	return at, ok
}

// ring does what a clock is for.
func (c *Conn) ring(clock int) []api.Segment {
	switch clock {
	case lingering:
		c.end(api.OK)
		return nil
	case acknowledging:
		return []api.Segment{c.acknowledgement()}
	}
	if c.tries >= c.setup.Tries {
		s := c.segment(api.RST, c.sent(), "")
		c.end(api.ErrTime)
		return []api.Segment{s}
	}
	return []api.Segment{c.sendAgain()}
}

// sendAgain sends what was not answered in time once more, and waits twice as long.
func (c *Conn) sendAgain() api.Segment {
	c.tries++
	c.sample = sample{}
	if n := c.flight(); n > 0 {
		c.valve.Late(n)
	}
	s := c.late()
	c.rto.Back()
	c.wait()
	return s
}

// late is what was not answered in time.
func (c *Conn) late() api.Segment {
	switch {
	case c.state == api.SynSent, c.state == api.SynRcvd:
		return c.syn()
	case c.acked != c.sent():
		return c.missing()
	}
	return c.probe()
}

// wait sets the clock of sending again.
func (c *Conn) wait() { c.set(sendingAgain, c.rto.Wait()) }

// set makes a clock due, so many ticks from now on.
func (c *Conn) set(clock, ticks int) { c.clocks[clock] = c.now + ticks }

// goTo goes on to a tick, as far as that may be: never back.
func (c *Conn) goTo(now int) { c.now = max(c.now, min(now, api.MaxTick)) }
