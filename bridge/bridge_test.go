package bridge_test

import (
	"math"
	"slices"
	"strings"
	"testing"

	"sternpost/api"
	"sternpost/bridge"
)

const group = 1 << 40 // the bit of an address that makes it one of a group

// farNumbers are no ports, no addresses, and no numbers that New takes.
var farNumbers = []int{-1, -2, 1 << 48, math.MinInt, math.MinInt + 1, math.MaxInt, math.MaxInt - 1}

// frame is one that may be.
func frame(to, from int) api.Frame {
	return api.Frame{To: to, From: from, Type: api.TypeIP, Data: "data"}
}

// made is a bridge that may not be refused.
func made(t *testing.T, ports, age, room int) *bridge.Bridge {
	t.Helper()
	b, e := bridge.New(ports, age, room)
	if e != api.OK || b == nil {
		t.Fatalf("New(%d, %d, %d): %d", ports, age, room, e)
	}
	return b
}

// goes looks whether a frame that comes in goes to just these ports.
func goes(t *testing.T, b *bridge.Bridge, port int, f api.Frame, now int, want ...int) {
	t.Helper()
	if ports, e := b.Take(port, f, now); e != api.OK || !slices.Equal(ports, want) {
		t.Errorf("from %d at %d to %d, tick %d: %v, %d, want %v", f.From, port, f.To, now, ports, e, want)
	}
}

// refuses looks whether a frame that comes in is refused.
func refuses(t *testing.T, b *bridge.Bridge, port int, f api.Frame, now int, want api.Code) {
	t.Helper()
	if ports, e := b.Take(port, f, now); e != want || len(ports) != 0 {
		t.Errorf("from %d at %d to %d, tick %d: %v, %d, want error %d", f.From, port, f.To, now, ports, e, want)
	}
}

// knows looks whether just these addresses are known, rising.
func knows(t *testing.T, b *bridge.Bridge, now int, want ...int) {
	t.Helper()
	if known := b.Known(now); !slices.Equal(known, want) {
		t.Errorf("tick %d: knows %v, want %v", now, known, want)
	}
}

// at looks whether an address is known at that port.
func at(t *testing.T, b *bridge.Bridge, address, now, port int) {
	t.Helper()
	if p, ok := b.Port(address, now); p != port || !ok {
		t.Errorf("%d, tick %d: %d, %v, want port %d", address, now, p, ok, port)
	}
}

// nowhere looks whether an address is not known.
func nowhere(t *testing.T, b *bridge.Bridge, address, now int) {
	t.Helper()
	if p, ok := b.Port(address, now); p != 0 || ok {
		t.Errorf("%d, tick %d: %d, %v, want none", address, now, p, ok)
	}
}

// 10.1: New, at the edges of all three numbers.
func TestNew(t *testing.T) {
	for _, x := range [][3]int{{1, 1, 1}, {16, 1 << 20, 1024}, {3, 10, 2}, {16, 1, 1}, {1, 1 << 20, 1}, {1, 1, 1024}} {
		b := made(t, x[0], x[1], x[2])
		knows(t, b, 0)
		nowhere(t, b, 0, 0)
	}
	bad := [][3]int{{0, 1, 1}, {17, 1, 1}, {1, 0, 1}, {1, 1<<20 + 1, 1}, {1, 1, 0}, {1, 1, 1025}, {0, 0, 0}}
	for _, n := range farNumbers {
		bad = append(bad, [3]int{n, 1, 1}, [3]int{1, n, 1}, [3]int{1, 1, n})
	}
	for _, x := range bad {
		if b, e := bridge.New(x[0], x[1], x[2]); b != nil || e != api.ErrRange {
			t.Errorf("New%v: %v, %d", x, b, e)
		}
	}
}

// 10.1: Port and Known, at the edges of the age, and at ticks that are none.
func TestPort(t *testing.T) {
	b := made(t, 3, 10, 5)
	goes(t, b, 2, frame(1, 9), 3, 0, 1)
	goes(t, b, 1, frame(1, 4), 5, 0, 2)
	goes(t, b, 0, frame(1, api.Everyone-group), 5, 1, 2)
	goes(t, b, 1, frame(9, 0), 6, 2)
	for _, now := range []int{math.MinInt, math.MinInt + 1, -1, 0, 2, 3, 6, 12} {
		at(t, b, 9, now, 2)
		at(t, b, 4, now, 1)
		at(t, b, 0, now, 1)
		at(t, b, api.Everyone-group, now, 0)
		knows(t, b, now, 0, 4, 9, api.Everyone-group)
	}
	nowhere(t, b, 9, 13)
	knows(t, b, 13, 0, 4, api.Everyone-group)
	at(t, b, 4, 14, 1)
	nowhere(t, b, 4, 15)
	knows(t, b, 15, 0)
	for _, now := range []int{16, api.MaxTick, api.MaxTick + 1, math.MaxInt} {
		nowhere(t, b, 0, now)
		knows(t, b, now)
	}
	for _, n := range append([]int{1, 2, 3, 5, group, api.Everyone}, farNumbers...) {
		nowhere(t, b, n, 6)
	}
	// To ask at a late tick lets nothing go.
	knows(t, b, 12, 0, 4, 9, api.Everyone-group)
	goes(t, b, 0, frame(9, 4), 12, 2)
}

// 10.1: the longest age, and the shortest one, with which all is forgotten at the next tick.
func TestAge(t *testing.T) {
	short, long := made(t, 2, 1, 4), made(t, 2, 1<<20, 4)
	for _, b := range []*bridge.Bridge{short, long} {
		goes(t, b, 1, frame(8, 7), 0, 0)
	}
	at(t, short, 7, 0, 1)
	nowhere(t, short, 7, 1)
	at(t, long, 7, 1<<20-1, 1)
	nowhere(t, long, 7, 1<<20)
	goes(t, short, 1, frame(8, 7), api.MaxTick, 0)
	at(t, short, 7, api.MaxTick, 1)
	nowhere(t, short, 7, api.MaxTick+1)
	nowhere(t, short, 7, math.MaxInt)
	goes(t, short, 0, frame(7, 8), api.MaxTick, 1)
}

// 10.2: the example, and what a frame's To decides.
func TestTake(t *testing.T) {
	b := made(t, 3, 10, 8)
	goes(t, b, 0, frame(6, 5), 0, 1, 2)
	goes(t, b, 2, frame(5, 6), 0, 0)
	goes(t, b, 0, frame(6, 5), 0, 2)
	goes(t, b, 1, frame(api.Everyone, 7), 0, 0, 2)
	goes(t, b, 2, frame(group+5, 6), 0, 0, 1)
	goes(t, b, 0, frame(api.Everyone, 5), 0, 1, 2)
	// To someone at the same port: it was there already.
	goes(t, b, 2, frame(6, 9), 0)
	goes(t, b, 2, frame(9, 6), 0)
	// To oneself: that is learnt first.
	goes(t, b, 1, frame(10, 10), 0)
	goes(t, b, 2, frame(10, 10), 0)
	at(t, b, 10, 0, 2)
	knows(t, b, 0, 5, 6, 7, 9, 10)
}

// 10.2: all ports there may be, and a single one.
func TestPorts(t *testing.T) {
	one, most := made(t, 1, 10, 8), made(t, 16, 10, 8)
	goes(t, one, 0, frame(6, 5), 0)
	goes(t, one, 0, frame(5, 6), 0)
	goes(t, one, 0, frame(api.Everyone, 6), 0)
	at(t, one, 5, 0, 0)
	for port := range 16 {
		var others []int
		for p := range 16 {
			if p != port {
				others = append(others, p)
			}
		}
		goes(t, most, port, frame(api.Everyone, 5), port, others...)
		goes(t, most, port, frame(99, 5), port, others...)
		at(t, most, 5, port, port)
	}
}

// 10.2: one that is heard elsewhere is there from then on; one that is heard again is not forgotten.
func TestHeardAgain(t *testing.T) {
	b := made(t, 3, 10, 8)
	goes(t, b, 0, frame(6, 5), 1, 1, 2)
	goes(t, b, 1, frame(6, 5), 4, 0, 2)
	at(t, b, 5, 13, 1)
	nowhere(t, b, 5, 14)
	goes(t, b, 2, frame(5, 6), 4, 1)
	goes(t, b, 1, frame(6, 5), 13, 2)
	at(t, b, 5, 22, 1)
	nowhere(t, b, 5, 23)
	// What is refused is not heard.
	refuses(t, b, 3, frame(6, 5), 14, api.ErrPort)
	refuses(t, b, 0, api.Frame{To: 6, From: 5}, 14, api.ErrEther)
	at(t, b, 5, 22, 1)
	nowhere(t, b, 5, 23)
}

// 10.2: what is forgotten is let go by a Take: it is not known at an earlier tick either, and a frame to it goes everywhere.
func TestLetGo(t *testing.T) {
	b := made(t, 3, 10, 8)
	goes(t, b, 0, frame(1, 5), 0, 1, 2)
	goes(t, b, 1, frame(1, 6), 1, 0, 2)
	goes(t, b, 2, frame(5, 7), 9, 0)
	knows(t, b, 0, 5, 6, 7)
	goes(t, b, 2, frame(6, 7), 10, 1)
	nowhere(t, b, 5, 0)
	knows(t, b, 0, 6, 7)
	goes(t, b, 2, frame(5, 7), 10, 0, 1)
	goes(t, b, 2, frame(6, 7), 11, 0, 1)
	knows(t, b, 0, 7)
	// One that was forgotten is learnt anew by what it says itself.
	goes(t, b, 2, frame(7, 7), 40)
	at(t, b, 7, 49, 2)
	goes(t, b, 0, frame(7, 5), 40, 2)
	at(t, b, 5, 40, 0)
}

// 10.2: without room only those that are known are learnt; what is forgotten makes room.
func TestRoom(t *testing.T) {
	b := made(t, 3, 10, 2)
	goes(t, b, 0, frame(9, 5), 0, 1, 2)
	goes(t, b, 1, frame(9, 6), 4, 0, 2)
	goes(t, b, 2, frame(5, 7), 4, 0)
	goes(t, b, 2, frame(7, 7), 4, 0, 1)
	goes(t, b, 0, frame(7, 5), 4, 1, 2)
	knows(t, b, 4, 5, 6)
	goes(t, b, 2, frame(5, 6), 5, 0)
	at(t, b, 6, 14, 2)
	goes(t, b, 1, frame(5, 7), 13, 0)
	knows(t, b, 13, 5, 6)
	goes(t, b, 1, frame(5, 7), 14, 0, 2)
	knows(t, b, 14, 6, 7)
	goes(t, b, 1, frame(6, 8), 15, 0, 2)
	knows(t, b, 15, 7, 8)
}

// 10.2: as much room as there may be.
func TestMostRoom(t *testing.T) {
	b := made(t, 2, 1<<20, api.MaxItems)
	var want []int
	for i := range api.MaxItems {
		goes(t, b, i%2, frame(api.Everyone, 7*i), i, 1-i%2)
		want = append(want, 7*i)
	}
	goes(t, b, 0, frame(api.Everyone, 1), api.MaxItems, 1)
	knows(t, b, api.MaxItems, want...)
	for i := range api.MaxItems {
		at(t, b, 7*i, api.MaxItems, i%2)
	}
}

// 10.2: what is refused, and of several errors the first one.
func TestRefused(t *testing.T) {
	b := made(t, 3, 10, 8)
	goes(t, b, 0, frame(6, 5), 20, 1, 2)
	bad := []api.Frame{
		{}, {To: 5, From: 6}, {To: 5, From: 6, Type: 1535}, {To: 5, From: 6, Type: 1 << 16}, {To: 5, From: group, Type: 1536},
		{To: 5, From: api.Everyone, Type: 1536}, {To: 5, From: 6, Type: 1536, Data: strings.Repeat("x", 1501)},
	}
	for _, n := range farNumbers {
		bad = append(bad, frame(n, 6), frame(5, n))
	}
	for _, f := range bad {
		refuses(t, b, 1, f, 29, api.ErrEther)
		refuses(t, b, 1, f, 19, api.ErrRange)
		refuses(t, b, 3, f, 29, api.ErrPort)
		refuses(t, b, -1, f, 19, api.ErrPort)
	}
	for _, n := range append([]int{3, 4, 16}, farNumbers...) {
		refuses(t, b, n, frame(5, 6), 29, api.ErrPort)
		refuses(t, b, n, frame(5, 6), -1, api.ErrPort)
	}
	for _, now := range []int{19, 1, 0, -1, math.MinInt, api.MaxTick + 1, math.MaxInt} {
		refuses(t, b, 1, frame(5, 6), now, api.ErrRange)
	}
	// None of these was learnt, let go of anything, or moved the tick on.
	knows(t, b, 20, 5)
	goes(t, b, 1, frame(5, 6), 20, 0)
	goes(t, b, 1, api.Frame{To: 5, From: 6, Type: 1536, Data: strings.Repeat("x", 1500)}, 20, 0)
}

// 10.2: what is refused at a late tick lets nothing go.
func TestRefusedLate(t *testing.T) {
	b := made(t, 2, 10, 8)
	goes(t, b, 0, frame(6, 5), 0, 1)
	refuses(t, b, 0, api.Frame{}, 10, api.ErrEther)
	refuses(t, b, 2, frame(6, 5), 10, api.ErrPort)
	refuses(t, b, 0, frame(6, 5), api.MaxTick+1, api.ErrRange)
	at(t, b, 5, 9, 0)
	goes(t, b, 1, frame(5, 6), 9, 0)
	refuses(t, b, 1, frame(5, 6), 8, api.ErrRange)
}

// 10.2: the ticks of a new bridge.
func TestFirstTick(t *testing.T) {
	for _, now := range []int{0, 1, api.MaxTick} {
		b := made(t, 2, 1, 1)
		refuses(t, b, 0, frame(6, 5), -1, api.ErrRange)
		goes(t, b, 0, frame(6, 5), now, 1)
		goes(t, b, 0, frame(6, 5), now, 1)
		refuses(t, b, 0, frame(6, 5), now-1, api.ErrRange)
	}
}

// 10.3: Down.
func TestDown(t *testing.T) {
	b := made(t, 3, 10, 4)
	goes(t, b, 0, frame(1, 5), 3, 1, 2)
	goes(t, b, 1, frame(1, 6), 3, 0, 2)
	goes(t, b, 1, frame(1, 7), 4, 0, 2)
	goes(t, b, 2, frame(1, 8), 4, 0, 1)
	for _, port := range append([]int{3, 16}, farNumbers...) {
		if e := b.Down(port); e != api.ErrPort {
			t.Errorf("Down(%d): %d", port, e)
		}
	}
	knows(t, b, 4, 5, 6, 7, 8)
	for range 2 {
		if e := b.Down(1); e != api.OK {
			t.Errorf("Down(1): %d", e)
		}
		knows(t, b, 4, 5, 8)
		nowhere(t, b, 6, 4)
	}
	// That makes room; the tick stays, and the port may be used again.
	refuses(t, b, 2, frame(6, 9), 3, api.ErrRange)
	goes(t, b, 2, frame(6, 9), 4, 0, 1)
	goes(t, b, 1, frame(9, 7), 4, 2)
	knows(t, b, 4, 5, 7, 8, 9)
	for port := range 3 {
		if e := b.Down(port); e != api.OK {
			t.Errorf("Down(%d): %d", port, e)
		}
	}
	knows(t, b, 4)
	goes(t, b, 2, frame(5, 8), 4, 0, 1)
}

// R4, R7: answers are new memory, and bridges know nothing of each other.
func TestOwnMemory(t *testing.T) {
	a, b := made(t, 4, 10, 8), made(t, 4, 10, 8)
	first, _ := a.Take(0, frame(6, 5), 0)
	scribble(first)
	goes(t, a, 0, frame(6, 5), 0, 1, 2, 3)
	goes(t, a, 1, frame(9, 6), 0, 0, 2, 3)
	second, _ := a.Take(0, frame(6, 5), 0)
	scribble(second)
	scribble(a.Known(0))
	goes(t, a, 0, frame(6, 5), 0, 1)
	knows(t, a, 0, 5, 6)
	knows(t, b, 0)
	goes(t, b, 2, frame(5, 6), 0, 0, 1, 3)
	at(t, a, 6, 0, 1)
}

func scribble(numbers []int) {
	numbers = numbers[:cap(numbers)]
	for i := range numbers {
		numbers[i] = -9
	}
}
