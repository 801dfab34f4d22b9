package table_test

import (
	"math"
	"testing"

	"sternpost/api"
	"sternpost/conn"
	"sternpost/table"
)

// 19.1
func TestNew(t *testing.T) {
	for _, ip := range []int{0, 1, here, word - 1, word} {
		for _, key := range []int{0, 1, word} {
			for _, n := range [][2]int{{1, 1}, {2, 256}, {64, 1}, {64, 256}} {
				x := made(t, table.Setup{Conn: set.Conn, Key: key, Backlog: n[0], Room: n[1]}, ip)
				x.empty()
				x.without(noNumbers...)
				x.acceptsNone(80, 1, mostPort)
				x.acceptsNone(noPorts...)
				x.silence(80, api.ErrNone)
			}
		}
	}
}

// refused looks whether no table is made of a setup.
func refused(t *testing.T, s table.Setup, ip int) {
	t.Helper()
	if x, e := table.New(s, ip); x != nil || e != api.ErrRange {
		t.Errorf("New(%+v, %d): %v, %d, want %d", s, ip, x, e, api.ErrRange)
	}
}

// 19.1
func TestNewRefuses(t *testing.T) {
	for _, n := range noWords {
		s := set
		s.Key = n
		refused(t, s, here)
		refused(t, set, n)
	}
	for _, n := range []int{0, -1, 65, 256, 1 << 32, 1<<32 + 1, math.MinInt, math.MaxInt} {
		s := set
		s.Backlog = n
		refused(t, s, here)
	}
	for _, n := range []int{0, -1, 257, 1 << 32, 1<<32 + 1, math.MinInt, math.MaxInt} {
		s := set
		s.Room = n
		refused(t, s, here)
	}
	for _, change := range []func(*conn.Setup){
		func(c *conn.Setup) { c.MSS = 0 },
		func(c *conn.Setup) { c.MSS = 1461 },
		func(c *conn.Setup) { c.Room = 0 },
		func(c *conn.Setup) { c.Delay = -1 },
		func(c *conn.Setup) { c.First = 0 },
		func(c *conn.Setup) { c.Least = c.Most + 1 },
		func(c *conn.Setup) { c.Tries = 33 },
		func(c *conn.Setup) { c.Linger = 0 },
	} {
		s := set
		change(&s.Conn)
		refused(t, s, here)
	}
}

// 19.1
func TestListen(t *testing.T) {
	x := made(t, set, here)
	for _, port := range noPorts {
		x.listen(port, api.ErrRange)
		x.silence(port, api.ErrNone)
	}
	for _, port := range []int{1, 80, firstOwn, mostPort} {
		x.silence(port, api.ErrNone)
		x.listen(port, api.OK)
		x.listen(port, api.ErrUsed)
		x.silence(port, api.OK)
		x.silence(port, api.ErrNone)
		x.listen(port, api.OK)
	}
	x.empty()
	for i, port := range []int{1, 80, firstOwn, mostPort} {
		x.comes(port, 5, i+1)
	}
}

// 19.1: what waits at a port that is silent is gone, whether it stands or not; nothing else is.
func TestSilence(t *testing.T) {
	s := set
	s.Backlog, s.Room = 3, 9
	x := made(t, s, here)
	x.listen(80, api.OK)
	x.listen(81, api.OK)
	held := x.stands(80, 4, 1)
	x.accept(80, 1)
	left := x.stands(80, 5, 2)
	x.accept(80, 2)
	x.drop(2, api.OK)
	gone := x.stands(80, 6, 3)
	x.comes(80, 7, 4)
	x.comes(81, 6, 5)
	x.opened(80, 6)
	x.silence(80, api.OK)
	x.numbers(1, 2, 5, 6)
	x.without(3, 4)
	x.is(1, api.Estab, api.OK)
	x.is(2, api.Estab, api.OK)
	x.is(5, api.SynRcvd, api.OK)
	x.is(6, api.SynSent, api.OK)
	x.acceptsNone(80)
	// What comes to one that is gone comes to none, and nothing comes in.
	x.take(there, far(0, 6, 80, 501, gone+1, "hi"), 1, 0, to(there, unknown(80, 6, gone+1))...)
	x.take(there, syn(8, 80), 1, 0, to(there, shut(80, 8))...)
	// What is not gone goes on.
	x.write(1, "ok", 1, 2, to(there, own(api.PSH, 80, 4, held+1, 501, "ok"))...)
	x.take(there, far(api.FIN, 5, 80, 501, left+1, ""), 1, 2, to(there, own(0, 80, 5, left+1, 502, ""))...)
	x.take(there, syn(8, 81), 1, 7, to(there, answer(81, 8, first(s.Key, api.Ends{IP: here, Port: 81, FarIP: there, FarPort: 8}, 1)))...)
}

// 19.1: a port that listens anew has all of its backlog, and none of what waited there.
func TestListensAnew(t *testing.T) {
	x := made(t, set, here)
	x.listen(80, api.OK)
	x.stands(80, 5, 1)
	x.comes(80, 6, 2)
	x.take(there, syn(7, 80), 0, 0)
	x.silence(80, api.OK)
	x.empty()
	x.listen(80, api.OK)
	x.acceptsNone(80)
	x.stands(80, 5, 3)
	x.comes(80, 6, 4)
	x.take(there, syn(7, 80), 0, 0)
	x.accept(80, 3)
	x.numbers(3, 4)
}
