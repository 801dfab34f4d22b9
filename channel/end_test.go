package channel_test

import (
	"math"
	"slices"
	"testing"

	"sternpost/api"
	"sternpost/channel"
)

const (
	epoch = 7
	mark  = 11
)

var set = channel.Setup{Room: 3, Wait: 4, Beat: 100}

// end is an end, and the test that looks at it.
type end struct {
	t *testing.T
	x *channel.End
}

func newEnd(t *testing.T, s channel.Setup, epoch, role, mark, now int) end {
	t.Helper()
	x, e := channel.New(s, epoch, role, mark, now)
	if x == nil || e != api.OK {
		t.Fatalf("New(%v, %d, %d, %d, %d): %d", s, epoch, role, mark, now, e)
	}
	return end{t, x}
}

// beaten is an end in the role api.Solo whose first beat went at the tick 0.
func beaten(t *testing.T, s channel.Setup) end {
	t.Helper()
	c := newEnd(t, s, epoch, api.Solo, mark, 0)
	c.ticks(0, beat(0))
	return c
}

// data and beat are what such an end sends.
func data(number, ack int, s string) api.Letter {
	return api.Letter{Kind: api.LData, Epoch: epoch, Role: api.Solo, Number: number, Ack: ack, Data: s}
}

func beat(ack int) api.Letter {
	return api.Letter{Kind: api.LBeat, Epoch: epoch, Role: api.Solo, Number: mark, Ack: ack}
}

func encoded(t *testing.T, x api.Letter) string {
	t.Helper()
	s, e := channel.Encode(x)
	if e != api.OK {
		t.Fatalf("%+v: %d", x, e)
	}
	return s
}

func (c end) sends(s string, now int, want api.Letter) {
	c.t.Helper()
	if l, e := c.x.Send(s, now); l != encoded(c.t, want) || e != api.OK {
		x, _ := channel.Decode(l)
		c.t.Errorf("Send of %d bytes, %d: %+v, %d, want %+v", len(s), now, x, e, want)
	}
}

func (c end) refuses(s string, now int, want api.Code) {
	c.t.Helper()
	if l, e := c.x.Send(s, now); l != "" || e != want {
		c.t.Errorf("Send of %d bytes, %d: %q, %d, want %d", len(s), now, l, e, want)
	}
}

func (c end) takes(x api.Letter, now int, want ...string) {
	c.t.Helper()
	if l, e := c.x.Take(encoded(c.t, x), now); !slices.Equal(l, want) || e != api.OK {
		c.t.Errorf("Take(%+v, %d): %q, %d, want %q", x, now, l, e, want)
	}
}

func (c end) drops(s string, now int, want api.Code) {
	c.t.Helper()
	if l, e := c.x.Take(s, now); len(l) != 0 || e != want {
		c.t.Errorf("Take(%q, %d): %q, %d, want %d", s, now, l, e, want)
	}
}

func (c end) ticks(now int, want ...api.Letter) {
	c.t.Helper()
	l := c.x.Tick(now)
	var all []api.Letter
	for _, s := range l {
		x, e := channel.Decode(s)
		if e != api.OK {
			c.t.Errorf("%q: %d", s, e)
		}
		all = append(all, x)
	}
	if !slices.Equal(all, want) {
		c.t.Errorf("Tick(%d): %+v, want %+v", now, all, want)
	}
}

func (c end) numbers(sent, acked, taken int) {
	c.t.Helper()
	if s, a, n := c.x.Numbers(); s != sent || a != acked || n != taken {
		c.t.Errorf("Numbers: %d, %d, %d, want %d, %d, %d", s, a, n, sent, acked, taken)
	}
}

func (c end) heard(at, role, mark int) {
	c.t.Helper()
	if a, r, m := c.x.Heard(); a != at || r != role || m != mark {
		c.t.Errorf("Heard: %d, %d, %d, want %d, %d, %d", a, r, m, at, role, mark)
	}
}

// 24.2
func TestNew(t *testing.T) {
	for _, x := range []struct {
		s                      channel.Setup
		epoch, role, mark, now int
	}{
		{channel.Setup{Room: 1, Wait: 1, Beat: 1}, 0, api.Down, 0, 0},
		{channel.Setup{Room: 64, Wait: 1 << 20, Beat: 1 << 20}, mostWord, api.Fenced, mostWord, mostNow},
		{set, epoch, api.Primary, mark, 5},
	} {
		c := newEnd(t, x.s, x.epoch, x.role, x.mark, x.now)
		c.numbers(0, 0, 0)
		c.heard(x.now, api.Down, 0)
		if c.x.Epoch() != x.epoch {
			t.Error(c.x.Epoch(), x.epoch)
		}
		c.sends("a", x.now, api.Letter{Kind: api.LData, Epoch: x.epoch, Role: x.role, Number: 1, Data: "a"})
		c.ticks(x.now, api.Letter{Kind: api.LBeat, Epoch: x.epoch, Role: x.role, Number: x.mark})
		c.heard(x.now, api.Down, 0)
	}
}

// 24.2
func TestNewRefused(t *testing.T) {
	refused := func(s channel.Setup, epoch, role, mark, now int) {
		t.Helper()
		if c, e := channel.New(s, epoch, role, mark, now); c != nil || e != api.ErrRange {
			t.Errorf("New(%v, %d, %d, %d, %d): %d", s, epoch, role, mark, now, e)
		}
	}
	for _, n := range []int{0, -1, 65, 256 + 1, 1 << 20, 1<<32 + 1, math.MinInt, math.MaxInt} {
		refused(channel.Setup{Room: n, Wait: 4, Beat: 4}, epoch, 1, mark, 0)
	}
	for _, n := range []int{0, -1, 1<<20 + 1, 1<<32 + 1, math.MinInt, math.MaxInt} {
		refused(channel.Setup{Room: 3, Wait: n, Beat: 4}, epoch, 1, mark, 0)
		refused(channel.Setup{Room: 3, Wait: 4, Beat: n}, epoch, 1, mark, 0)
	}
	for _, n := range noWords {
		refused(set, n, 1, mark, 0)
		refused(set, epoch, 1, n, 0)
	}
	for _, n := range noRoles {
		refused(set, epoch, n, mark, 0)
	}
	for _, n := range []int{-1, mostNow + 1, math.MinInt, math.MaxInt} {
		refused(set, epoch, 1, mark, n)
	}
	refused(channel.Setup{}, 0, 0, 0, 0)
}

// 24.2, 24.3: all that it sends has its role as it is now, what is sent again, too.
func TestRole(t *testing.T) {
	c := beaten(t, set)
	c.sends("a", 1, data(1, 0, "a"))
	for _, n := range noRoles {
		if e := c.x.Role(n); e != api.ErrRange {
			t.Errorf("Role(%d): %d", n, e)
		}
	}
	c.sends("b", 1, data(2, 0, "b"))
	for now, role := range []int{api.Down, api.Joining, api.Backup, api.Primary, api.Solo, api.Fenced} {
		if e := c.x.Role(role); e != api.OK {
			t.Errorf("Role(%d): %d", role, e)
		}
		a, b, l := data(1, 0, "a"), data(2, 0, "b"), beat(0)
		a.Role, b.Role, l.Role = role, role, role
		c.ticks(100+100*now, a, b, l)
	}
	c.heard(0, api.Down, 0)
}

// 24.2: a now is at least the one ahead of it, and at most the last one that there is.
func TestNows(t *testing.T) {
	c := newEnd(t, set, epoch, api.Solo, mark, 50)
	c.ticks(math.MinInt, beat(0))
	c.sends("a", 3, data(1, 0, "a")) // at 50
	c.ticks(53)
	c.takes(beat(0), -1)
	c.heard(53, api.Solo, mark)
	c.takes(beat(0), 60)
	c.ticks(5, data(1, 0, "a")) // at 60
	c.sends("b", 70, data(2, 0, "b"))
	c.takes(beat(0), 69)
	c.heard(70, api.Solo, mark)
	c.ticks(mostNow-4, data(1, 0, "a"), data(2, 0, "b"), beat(0))
	c.takes(beat(1), math.MaxInt)
	c.heard(mostNow, api.Solo, mark)
	c.ticks(mostNow+1, data(2, 0, "b"))
	c.ticks(math.MaxInt)
	c.sends("c", 0, data(3, 0, "c"))
	c.ticks(mostNow)
	c.ticks(mostNow + 4)
}

// 24.2: what was refused has no now.
func TestRefusedNows(t *testing.T) {
	c := beaten(t, set)
	other := beat(0)
	other.Epoch++
	for range set.Room {
		c.drops("x", 1000, api.ErrChan)
		c.drops(encoded(t, other), 1000, api.ErrEpoch)
		c.refuses(long(mostData+1), 1000, api.ErrLong)
		n, _, _ := c.x.Numbers()
		c.sends("a", 2, data(n+1, 0, "a"))
	}
	c.refuses("a", 1000, api.ErrFull)
	c.ticks(5)
	c.ticks(6, data(1, 0, "a"), data(2, 0, "a"), data(3, 0, "a"))
}

// 24.3
func TestSend(t *testing.T) {
	c := newEnd(t, set, epoch, api.Solo, mark, 0)
	c.refuses(long(mostData+1), 0, api.ErrLong)
	c.refuses(long(1<<16+1), 0, api.ErrLong)
	c.sends("", 0, data(1, 0, ""))
	c.sends(long(mostData), 0, data(2, 0, long(mostData)))
	c.takes(data(1, 0, "x"), 0, "x")
	c.sends("\x00\xff", 0, data(3, 1, "\x00\xff"))
	c.numbers(3, 0, 1)
	c.refuses("a", 0, api.ErrFull)
	c.refuses("", 0, api.ErrFull)
	c.refuses(long(mostData), 0, api.ErrFull)
	c.refuses(long(mostData+1), 0, api.ErrLong)
	c.numbers(3, 0, 1)
	c.takes(beat(1), 0)
	c.sends("d", 0, data(4, 1, "d"))
	c.refuses("e", 0, api.ErrFull)
	c.takes(beat(4), 0)
	for n := 5; n < 8; n++ {
		c.sends("f", 0, data(n, 1, "f"))
	}
	c.refuses("g", 0, api.ErrFull)
	c.numbers(7, 4, 1)
}

// 24.3: as many letters as there is room for, the least room and the greatest one.
func TestSendRoom(t *testing.T) {
	for _, room := range []int{1, 2, 64} {
		c := beaten(t, channel.Setup{Room: room, Wait: 4, Beat: 100})
		for n := range room {
			c.sends("a", 0, data(n+1, 0, "a"))
		}
		c.refuses("a", 0, api.ErrFull)
		c.takes(beat(room-1), 0)
		c.numbers(room, room-1, 0)
		c.takes(beat(room), 0)
		c.sends("b", 0, data(room+1, 0, "b"))
	}
}

// 24.3, 24.5: each letter waits from when it was sent last itself; what it sends again tells what it took meanwhile.
func TestSentAgain(t *testing.T) {
	c := beaten(t, set)
	c.sends("a", 1, data(1, 0, "a"))
	c.sends("b", 3, data(2, 0, "b"))
	c.ticks(4)
	c.ticks(5, data(1, 0, "a"))
	c.ticks(5)
	c.ticks(6)
	c.ticks(7, data(2, 0, "b"))
	c.sends("c", 7, data(3, 0, "c"))
	c.takes(data(1, 0, "x"), 8, "x")
	c.ticks(8, beat(1))
	c.ticks(9, data(1, 1, "a"))
	c.ticks(20, data(1, 1, "a"), data(2, 1, "b"), data(3, 1, "c"))
	c.takes(beat(2), 21)
	c.ticks(23)
	c.ticks(24, data(3, 1, "c"))
	c.takes(beat(3), 24)
	c.ticks(60)
	c.sends("d", 60, data(4, 1, "d"))
	c.ticks(63)
	c.ticks(64, data(4, 1, "d"))
}

// 24.3: the least wait.
func TestShortWait(t *testing.T) {
	c := beaten(t, channel.Setup{Room: 1, Wait: 1, Beat: 1 << 20})
	c.sends("a", 5, data(1, 0, "a"))
	c.ticks(5)
	c.ticks(6, data(1, 0, "a"))
	c.ticks(6)
	c.ticks(7, data(1, 0, "a"))
}

// 24.4: what is refused is not heard.
func TestTakeRefused(t *testing.T) {
	c := newEnd(t, set, epoch, api.Solo, mark, 1)
	c.sends("a", 1, data(1, 0, "a"))
	c.ticks(1, beat(0))
	for _, s := range noLetters() {
		c.drops(s, 2, api.ErrChan)
	}
	for _, n := range []int{0, epoch - 1, epoch + 1, epoch + 256, epoch + 1<<16, epoch + 1<<24, mostWord} {
		for _, x := range []api.Letter{data(1, 1, "x"), data(2, 1, "x"), beat(1)} {
			x.Epoch = n
			c.drops(encoded(t, x), 2, api.ErrEpoch)
		}
	}
	c.heard(1, api.Down, 0)
	c.numbers(1, 0, 0)
	c.ticks(4)
	c.takes(data(1, 1, "y"), 5, "y")
}

// 24.4: each letter that is not refused is heard; the mark is a beat's.
func TestTakeHears(t *testing.T) {
	c := beaten(t, set)
	for now, role := range []int{api.Solo, api.Down, api.Joining, api.Backup, api.Primary, api.Fenced} {
		x := beat(0)
		x.Role, x.Number = role, 1000*now
		c.takes(x, 20*now+10)
		c.heard(20*now+10, role, 1000*now)
		y := data(1000, 0, "ahead")
		y.Role = api.Fenced - role
		c.takes(y, 20*now+20)
		c.heard(20*now+20, api.Fenced-role, 1000*now)
	}
	x := beat(0)
	x.Number = mostWord
	c.takes(x, 200)
	c.heard(200, api.Solo, mostWord)
	c.takes(data(1, 0, "a"), 201, "a")
	c.heard(201, api.Solo, mostWord)
	c.takes(data(1, 0, "a"), 202)
	c.heard(202, api.Solo, mostWord)
	c.takes(beat(mostWord), 203)
	c.heard(203, api.Solo, mark)
}

// 24.4: what is acknowledged goes, by a beat, and by data that came before, is kept, or is too far ahead.
func TestTakeAck(t *testing.T) {
	for _, x := range []api.Letter{beat(0), data(1, 0, "w"), data(3, 0, "x"), data(100, 0, "x")} {
		c := beaten(t, set)
		c.takes(data(1, 0, "w"), 0, "w")
		for n := 1; n <= 3; n++ {
			c.sends("a", 0, data(n, 1, "a"))
		}
		for _, step := range [][2]int{{4, 0}, {mostWord, 0}, {0, 0}, {2, 2}, {1, 2}, {0, 2}, {4, 2}, {2, 2}, {3, 3}, {2, 3}, {4, 3}} {
			x.Ack = step[0]
			c.takes(x, 1)
			c.numbers(3, step[1], 1)
		}
		c.sends("d", 1, data(4, 1, "d"))
		x.Ack = 4
		c.takes(x, 1)
		c.numbers(4, 4, 1)
	}
}

// 24.4: data that is taken acknowledges, too.
func TestTakeDataAck(t *testing.T) {
	c := beaten(t, set)
	c.sends("a", 0, data(1, 0, "a"))
	c.sends("b", 0, data(2, 0, "b"))
	c.takes(data(1, 1, "x"), 1, "x")
	c.numbers(2, 1, 1)
	c.takes(data(2, 3, "y"), 1, "y")
	c.numbers(2, 1, 2)
	c.ticks(4, data(2, 2, "b"), beat(2))
	c.takes(data(3, 2, "z"), 5, "z")
	c.numbers(2, 2, 3)
	c.ticks(99, beat(3))
}

// 24.4: what was never sent is not acknowledged.
func TestTakeAckOfNothing(t *testing.T) {
	c := beaten(t, set)
	c.takes(beat(1), 1)
	c.takes(beat(mostWord), 1)
	c.numbers(0, 0, 0)
	c.sends("a", 1, data(1, 0, "a"))
	c.numbers(1, 0, 0)
	c.ticks(5, data(1, 0, "a"))
}

// 24.4: in order, ahead of its turn, and doubled.
func TestTakeData(t *testing.T) {
	c := beaten(t, set)
	c.takes(data(1, 0, "a"), 1, "a")
	c.takes(data(1, 0, "other"), 1)
	c.numbers(0, 0, 1)
	c.takes(data(4, 0, "d"), 1)
	c.takes(data(3, 0, "c"), 1)
	c.takes(data(3, 0, "other"), 1)
	c.takes(data(4, 0, ""), 1)
	c.numbers(0, 0, 1)
	c.takes(data(2, 0, ""), 1, "", "c", "d")
	c.numbers(0, 0, 4)
	for n := 1; n <= 4; n++ {
		c.takes(data(n, 0, "other"), 1)
	}
	c.takes(data(5, 0, "e"), 1, "e")
	c.numbers(0, 0, 5)
}

// 24.4: up to the first gap.
func TestTakeGap(t *testing.T) {
	c := beaten(t, channel.Setup{Room: 5, Wait: 4, Beat: 100})
	c.takes(data(6, 0, "f"), 1)
	c.takes(data(2, 0, "b"), 1)
	c.takes(data(4, 0, "d"), 1)
	c.takes(data(1, 0, "a"), 1, "a", "b")
	c.numbers(0, 0, 2)
	c.takes(data(5, 0, "e"), 1)
	c.takes(data(3, 0, "c"), 1, "c", "d", "e", "f")
	c.numbers(0, 0, 6)
	c.takes(data(7, 0, "g"), 1, "g")
}

// 24.4: at most its room's letters are kept that are ahead of their turn.
func TestTakeRoom(t *testing.T) {
	for _, room := range []int{1, 3, 64} {
		c := beaten(t, channel.Setup{Room: room, Wait: 4, Beat: 100})
		want := []string{"a"}
		for n := 1; n <= room; n++ {
			c.takes(data(1+n, 0, long(n)), 1)
			want = append(want, long(n))
		}
		for _, n := range []int{room + 2, room + 3, 2*room + 3, 1 << 20, mostWord} {
			c.takes(data(n, 0, "x"), 1)
		}
		c.takes(data(1, 0, "a"), 1, want...)
		c.numbers(0, 0, 1+room)
		c.takes(data(room+3, 0, "z"), 1)
		c.takes(data(room+2, 0, "y"), 1, "y", "z")
	}
}

// 24.5: the first beat at once, and then as far apart as it says.
func TestBeat(t *testing.T) {
	c := newEnd(t, channel.Setup{Room: 1, Wait: 1 << 20, Beat: 6}, epoch, api.Solo, mark, 3)
	c.ticks(3, beat(0))
	c.ticks(3)
	c.ticks(8)
	c.ticks(9, beat(0))
	c.ticks(14)
	c.ticks(20, beat(0))
	c.ticks(25)
	c.ticks(26, beat(0))
	c.takes(beat(0), 27)
	c.sends("a", 27, data(1, 0, "a"))
	c.ticks(31)
	c.ticks(32, beat(0))

	c = newEnd(t, channel.Setup{Room: 1, Wait: 1 << 20, Beat: 1}, epoch, api.Solo, mark, 0)
	c.ticks(1000, beat(0))
	c.ticks(1000)
	c.ticks(1001, beat(0))
}

// 24.4, 24.5: data of any number is told of by a beat at once, from which the next one is counted.
func TestBeatDue(t *testing.T) {
	for i, n := range []int{1, 1, 3, 3, 1, 100, mostWord, 2} {
		c := newEnd(t, channel.Setup{Room: 3, Wait: 4, Beat: 6}, epoch, api.Solo, mark, 0)
		c.takes(data(1, 0, "a"), 0, "a")
		c.ticks(1, beat(1))
		want, taken := []string(nil), 1
		if n == 2 {
			want, taken = []string{"b"}, 2
		}
		c.takes(data(n, 0, "b"), 2, want...)
		if i%2 == 1 {
			c.takes(beat(0), 2)
			c.takes(data(1, 0, "a"), 3)
		}
		c.ticks(3, beat(taken))
		c.ticks(3)
		c.ticks(8)
		c.ticks(9, beat(taken))
	}
}

// 24.5: the beat is behind the letters.
func TestTickOrder(t *testing.T) {
	c := newEnd(t, set, epoch, api.Solo, mark, 0)
	for n, s := range []string{"a", "b", "c"} {
		c.sends(s, 2-n, data(1+n, 0, s))
	}
	c.takes(data(1, 0, "x"), 3, "x")
	c.ticks(40, data(1, 1, "a"), data(2, 1, "b"), data(3, 1, "c"), beat(1))
}
