package event_test

import (
	"math"
	"slices"
	"strings"
	"testing"

	"sternpost/api"
	"sternpost/event"
)

// log is a log, and the test that looks at it.
type log struct {
	t *testing.T
	x *event.Log
}

func newLog(t *testing.T, l ...api.Event) log {
	t.Helper()
	g := log{t, event.New()}
	for i, x := range l {
		g.adds(x, i+1)
	}
	return g
}

func (g log) adds(x api.Event, want int) {
	g.t.Helper()
	if n, e := g.x.Add(x); n != want || e != api.OK {
		g.t.Fatalf("Add(%+v): %d, %d, want %d", x, n, e, want)
	}
}

func (g log) refuses(x api.Event, want api.Code) {
	g.t.Helper()
	if n, e := g.x.Add(x); n != 0 || e != want {
		g.t.Fatalf("Add(%+v): %d, %d, want %d", x, n, e, want)
	}
}

// has looks at all that may be asked of a log with these events, but for its bytes.
func (g log) has(want ...api.Event) {
	g.t.Helper()
	now := 0
	if len(want) > 0 {
		now = want[len(want)-1].Now
	}
	if n := g.x.Len(); n != len(want) {
		g.t.Fatalf("Len: %d, want %d", n, len(want))
	}
	if n := g.x.Now(); n != now {
		g.t.Fatalf("Now: %d, want %d", n, now)
	}
	for i, w := range want {
		if x, e := g.x.Get(i + 1); x != w || e != api.OK {
			g.t.Fatalf("Get(%d): %+v, %d, want %+v", i+1, x, e, w)
		}
	}
	for _, n := range []int{0, -1, -len(want), len(want) + 1, len(want) + 2, 1 << 32, 1<<32 + 1, math.MinInt, math.MinInt + 1, math.MaxInt} {
		if x, e := g.x.Get(n); x != (api.Event{}) || e != api.ErrNone {
			g.t.Fatalf("Get(%d): %+v, %d", n, x, e)
		}
	}
}

func (g log) tells(from, most int, want string, next int) {
	g.t.Helper()
	if s, n := g.x.Bytes(from, most); s != want || n != next {
		g.t.Fatalf("Bytes(%d, %d): %d bytes, %d, want %d, %d", from, most, len(s), n, len(want), next)
	}
}

// 23.2
func TestLog(t *testing.T) {
	g := newLog(t)
	g.has()
	l := []api.Event{tick(0), frame(0, "a"), tick(0), tick(3), frame(3, ""), frame(3, long(mostData)), frame(9, "a"), frame(9, "a"), tick(mostNow), frame(mostNow, "z")}
	for i, x := range l {
		g.adds(x, i+1)
		g.has(l[:i+1]...)
	}
}

// 23.2: what may not be comes nowhere, and moves nothing.
func TestLogRefuses(t *testing.T) {
	g := newLog(t)
	for _, x := range wrong() {
		g.refuses(x, api.ErrEvent)
	}
	g.has()
	l := []api.Event{tick(4), frame(258, "abc")}
	g = newLog(t, l...)
	for _, x := range wrong() {
		g.refuses(x, api.ErrEvent)
	}
	for _, now := range []int{0, 3, 4, 257} {
		g.refuses(tick(now), api.ErrRange)
		g.refuses(frame(now, "abc"), api.ErrRange)
	}
	g.has(l...)
	g.adds(tick(258), 3)
	g.adds(frame(258, "x"), 4)
	g.refuses(tick(257), api.ErrRange)
	g.has(append(l, tick(258), frame(258, "x"))...)
}

// 23.2: a log that is full tells what else is wrong first.
func TestLogFull(t *testing.T) {
	g := newLog(t)
	var l []api.Event
	for i := range mostEvents {
		l = append(l, frame(i, strings.Repeat("x", i%5)))
		g.adds(l[i], i+1)
	}
	for range 2 {
		g.refuses(tick(mostEvents-1), api.ErrLong)
		g.refuses(tick(mostNow), api.ErrLong)
		g.refuses(frame(mostEvents, "x"), api.ErrLong)
		g.refuses(tick(mostEvents-2), api.ErrRange)
		g.refuses(tick(-1), api.ErrEvent)
		g.refuses(api.Event{}, api.ErrEvent)
		g.has(l...)
	}
	// Nine bytes each, and two besides on the average, as every fifth one has none, and the others have 1, 2, 3, 4.
	if s, next := g.x.Bytes(1, math.MaxInt); len(s) != mostEvents*head+mostEvents/5*10 || next != mostEvents+1 {
		t.Error(len(s), next)
	}
	g.tells(mostEvents, 0, string(encoded(t, l[mostEvents-1])), mostEvents+1)
	g.tells(mostEvents+1, 1000, "", mostEvents+1)
}

// encoded is the bytes of events, one behind the other.
func encoded(t *testing.T, l ...api.Event) string {
	t.Helper()
	var all strings.Builder
	for _, x := range l {
		s, e := event.Encode(x)
		if e != api.OK {
			t.Fatalf("%+v: %d", x, e)
		}
		all.WriteString(s)
	}
	return all.String()
}

// 23.2
func TestBytes(t *testing.T) {
	l := []api.Event{tick(1), frame(1, "abc"), frame(1, ""), tick(2), frame(258, long(100)), tick(mostNow)} // of 9, 12, 9, 9, 109, 9 bytes
	g := newLog(t, l...)
	for _, x := range []struct{ from, most, behind int }{
		{1, 0, 2}, {1, -1, 2}, {1, math.MinInt, 2}, {1, 8, 2}, {1, 9, 2}, {1, 20, 2}, {1, 21, 3}, {1, 29, 3}, {1, 30, 4}, {1, 38, 4}, {1, 39, 5}, {1, 147, 5}, {1, 148, 6}, {1, 156, 6}, {1, 157, 7}, {1, 158, 7}, {1, math.MaxInt, 7},
		{2, 0, 3}, {2, 11, 3}, {2, 12, 3}, {2, 20, 3}, {2, 21, 4}, {2, math.MaxInt, 7},
		{3, 9, 4}, {3, 18, 5}, {3, 126, 5}, {3, 127, 6},
		{5, 0, 6}, {5, 1, 6}, {5, 108, 6}, {5, 109, 6}, {5, 117, 6}, {5, 118, 7},
		{6, 0, 7}, {6, math.MinInt, 7}, {6, math.MaxInt, 7},
	} {
		g.tells(x.from, x.most, encoded(t, l[x.from-1:x.behind-1]...), x.behind)
	}
	for _, from := range []int{0, -1, -6, math.MinInt} {
		g.tells(from, 21, encoded(t, l[:2]...), 3)
		g.tells(from, -1, encoded(t, l[:1]...), 2)
		g.tells(from, math.MaxInt, encoded(t, l...), 7)
	}
	for _, from := range []int{7, 8, 100, 1 << 32, 1<<32 + 1, math.MaxInt - 1, math.MaxInt} {
		for _, most := range []int{math.MinInt, 0, 9, 1000, math.MaxInt} {
			g.tells(from, most, "", from)
		}
	}
	g.has(l...)
}

// 23.2: without an event there is nothing from any number on.
func TestBytesOfNothing(t *testing.T) {
	g := newLog(t)
	for _, most := range []int{math.MinInt, 0, 1000, math.MaxInt} {
		for _, from := range []int{1, 2, 9, math.MaxInt} {
			g.tells(from, most, "", from)
		}
		for _, from := range []int{0, -1, math.MinInt} {
			g.tells(from, most, "", 1)
		}
	}
}

// 23.2, 23.3: in steps of any length all events are told once, in order.
func TestBytesInSteps(t *testing.T) {
	var l []api.Event
	for i := range 200 {
		l = append(l, frame(i/3, long(i*i%700)))
	}
	g := newLog(t, l...)
	for _, most := range []int{-1, 0, 1, 9, 10, 100, 709, 1000, 4096 - 1523, 1 << 16} {
		var all []api.Event
		for from := 1; from <= g.x.Len(); {
			s, next := g.x.Bytes(from, most)
			p, e := event.Parts(s)
			if e != api.OK || next != from+len(p) || next == from || (len(s) > most && len(p) > 1) {
				t.Fatal(most, from, next, len(s), len(p), e)
			}
			all = append(all, p...)
			from = next
		}
		if !slices.Equal(all, l) {
			t.Error(most)
		}
	}
}

// LANGUAGE 5: logs know nothing of each other.
func TestTwoLogs(t *testing.T) {
	a, b := newLog(t, tick(5)), newLog(t)
	b.adds(frame(1, "b"), 1)
	a.adds(tick(6), 2)
	a.has(tick(5), tick(6))
	b.has(frame(1, "b"))
	a.refuses(tick(5), api.ErrRange)
	b.adds(tick(1), 2)
}
