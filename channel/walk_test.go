package channel_test

import (
	"encoding/binary"
	"math"
	"slices"
	"testing"

	"sternpost/api"
	"sternpost/channel"
)

// dice are numbers that look as if they were thrown, and are the same each time.
type dice uint64

func (d *dice) upTo(n int) int {
	*d = *d*6364136223846793005 + 1442695040888963407
	return int(uint64(*d)>>33) % (n + 1)
}

func (d *dice) of(l ...int) int { return l[d.upTo(len(l)-1)] }

// slowEncode is a letter's bytes.
func slowEncode(x api.Letter) string {
	b := binary.BigEndian.AppendUint32([]byte{byte(x.Kind)}, uint32(x.Epoch))
	b = binary.BigEndian.AppendUint32(append(b, byte(x.Role)), uint32(x.Number))
	b = binary.BigEndian.AppendUint32(b, uint32(x.Ack))
	b = binary.BigEndian.AppendUint16(b, uint16(len(x.Data)))
	return checked(string(b) + x.Data)
}

// slowSent is a letter that was sent, and when it was last.
type slowSent struct {
	data string
	at   int
}

// slowEnd is an end that forgets nothing.
type slowEnd struct {
	set               channel.Setup
	epoch, role, mark int
	now               int
	sent              []slowSent
	acked, taken      int
	came              map[int]string
	beats             []int
	due               bool
	at, far, farMark  int
}

func newSlow(s channel.Setup, epoch, role, mark, now int) *slowEnd {
	return &slowEnd{set: s, epoch: epoch, role: role, mark: mark, now: now, came: map[int]string{}, at: now}
}

func (c *slowEnd) time(now int) {
	if now > mostNow {
		now = mostNow
	}
	if now > c.now {
		c.now = now
	}
}

func (c *slowEnd) letter(kind, number int, s string) string {
	return slowEncode(api.Letter{Kind: kind, Epoch: c.epoch, Role: c.role, Number: number, Ack: c.taken, Data: s})
}

func (c *slowEnd) send(s string, now int) (string, api.Code) {
	if len(s) > mostData {
		return "", api.ErrLong
	}
	if len(c.sent)-c.acked >= c.set.Room {
		return "", api.ErrFull
	}
	c.time(now)
	c.sent = append(c.sent, slowSent{s, c.now})
	return c.letter(api.LData, len(c.sent), s), api.OK
}

func (c *slowEnd) take(s string, now int) (l []string, e api.Code) {
	x, e := channel.Decode(s)
	if e != api.OK || slowEncode(x) != s {
		return nil, api.ErrChan
	}
	if x.Epoch != c.epoch {
		return nil, api.ErrEpoch
	}
	c.time(now)
	c.at, c.far = c.now, x.Role
	if x.Ack > c.acked && x.Ack <= len(c.sent) {
		c.acked = x.Ack
	}
	if x.Kind == api.LBeat {
		c.farMark = x.Number
		return nil, api.OK
	}
	c.due = true
	_, there := c.came[x.Number]
	if !there && x.Number > c.taken && x.Number <= c.taken+1+c.set.Room {
		c.came[x.Number] = x.Data
	}
	for {
		s, there := c.came[c.taken+1]
		if !there {
			return l, api.OK
		}
		c.taken++
		l = append(l, s)
	}
}

func (c *slowEnd) tick(now int) (l []string) {
	c.time(now)
	for i := c.acked; i < len(c.sent); i++ {
		if c.now-c.sent[i].at >= c.set.Wait {
			c.sent[i].at = c.now
			l = append(l, c.letter(api.LData, i+1, c.sent[i].data))
		}
	}
	if n := len(c.beats); c.due || n == 0 || c.now-c.beats[n-1] >= c.set.Beat {
		c.due = false
		c.beats = append(c.beats, c.now)
		l = append(l, c.letter(api.LBeat, c.mark, ""))
	}
	return l
}

// both is an end, and the slow one beside it.
type both struct {
	end
	slow *slowEnd
}

func newBoth(t *testing.T, s channel.Setup, epoch, role, mark, now int) both {
	t.Helper()
	return both{newEnd(t, s, epoch, role, mark, now), newSlow(s, epoch, role, mark, now)}
}

func (b both) send(s string, now int) (string, api.Code) {
	b.t.Helper()
	l, e := b.x.Send(s, now)
	if m, f := b.slow.send(s, now); l != m || e != f {
		b.t.Fatalf("Send of %d bytes, %d: %q, %d, want %q, %d", len(s), now, l, e, m, f)
	}
	b.same()
	return l, e
}

func (b both) take(s string, now int) ([]string, api.Code) {
	b.t.Helper()
	l, e := b.x.Take(s, now)
	if m, f := b.slow.take(s, now); !slices.Equal(l, m) || e != f {
		b.t.Fatalf("Take(%q, %d): %q, %d, want %q, %d", s, now, l, e, m, f)
	}
	b.same()
	return l, e
}

func (b both) tick(now int) []string {
	b.t.Helper()
	l, m := b.x.Tick(now), b.slow.tick(now)
	if !slices.Equal(l, m) {
		b.t.Fatalf("Tick(%d): %q, want %q", now, l, m)
	}
	b.same()
	return l
}

func (b both) same() {
	b.t.Helper()
	b.numbers(len(b.slow.sent), b.slow.acked, b.slow.taken)
	b.heard(b.slow.at, b.slow.far, b.slow.farMark)
}

// forged is a letter that may be, of numbers close to those of an end.
func (d *dice) forged(c *slowEnd) api.Letter {
	x := api.Letter{Kind: d.of(api.LData, api.LData, api.LBeat), Epoch: c.epoch, Role: d.upTo(5), Number: max(1, c.taken+d.upTo(c.set.Room+6)-2)}
	x.Ack = d.of(max(0, c.acked+d.upTo(c.set.Room+4)-2), 0, mostWord)
	if d.upTo(15) == 0 {
		x.Epoch = d.of(0, c.epoch^1, c.epoch^1<<8, mostWord)
	}
	if d.upTo(15) == 0 {
		x.Number = d.of(1, mostWord, d.upTo(1000)+1)
	}
	if x.Kind == api.LData {
		x.Data = long(d.upTo(20))
	}
	return x
}

// walk is an end that does what comes by chance, and how often what came.
type walk struct {
	*dice
	both
	now           int
	codes         map[api.Code]int
	taken, ticked [4]int // by how many were answered, of which the last is for all that are more
}

func newWalk(t *testing.T, d *dice, codes map[api.Code]int) *walk {
	t.Helper()
	s := channel.Setup{Room: 1 + d.of(0, d.upTo(5), d.upTo(63)), Wait: 1 + d.of(0, d.upTo(9)), Beat: 1 + d.of(0, d.upTo(20))}
	now := d.of(0, 0, d.upTo(99), mostNow-100, mostNow)
	return &walk{dice: d, both: newBoth(t, s, d.of(0, 7, 256, mostWord), d.upTo(5), d.of(0, mostWord, d.upTo(9)), now), now: now, codes: codes}
}

// tickOf is mostly the next tick, now and then one that counts as another one.
func (w *walk) tickOf() int {
	w.now += w.of(0, 0, 1, 1, 2, w.upTo(30))
	switch n := w.upTo(300); {
	case n < 8:
		return w.of(0, -1, w.now-1, w.now-5, math.MinInt)
	case n == 8:
		return w.of(mostNow, mostNow+1, math.MaxInt)
	}
	return w.now
}

func (w *walk) step() {
	w.t.Helper()
	at := w.tickOf()
	switch n := w.upTo(9); {
	case n < 3:
		_, e := w.send(long(w.of(w.upTo(20), w.upTo(20), w.upTo(20), mostData+w.upTo(1))), at)
		w.codes[e]++
	case n < 7:
		x := encoded(w.t, w.forged(w.slow))
		if w.upTo(9) == 0 {
			x = x[:w.upTo(len(x)-1)]
		}
		l, e := w.take(x, at)
		w.codes[e]++
		w.taken[min(len(l), 3)]++
	case n < 9:
		w.ticked[min(len(w.tick(at)), 3)]++
	default:
		w.role(w.of(w.upTo(5), 6, -1))
	}
}

func (w *walk) role(role int) {
	w.t.Helper()
	e := w.x.Role(role)
	if (e == api.OK) != (role >= 0 && role <= 5) {
		w.t.Fatal(role, e)
	}
	if e == api.OK {
		w.slow.role = role
	}
}

// 24.2 to 24.5: ends, and slow ones beside them.
func TestWalks(t *testing.T) {
	d, codes := dice(24), map[api.Code]int{}
	var taken, ticked [4]int
	for range 250 {
		w := newWalk(t, &d, codes)
		for range 300 {
			w.step()
		}
		for i := range taken {
			taken[i] += w.taken[i]
			ticked[i] += w.ticked[i]
		}
	}
	for _, e := range []api.Code{api.OK, api.ErrLong, api.ErrFull, api.ErrChan, api.ErrEpoch} {
		if codes[e] < 500 {
			t.Errorf("%d: came %d times", e, codes[e])
		}
	}
	if min(slices.Min(taken[:]), slices.Min(ticked[:])) < 200 {
		t.Error(taken, ticked)
	}
}

// road is two ends of one epoch, a link between them that does what it likes, and a third end of another epoch that hears all, too.
type road struct {
	*dice
	t        *testing.T
	ends     [2]both
	stranger end
	sent     [2][]string
	taken    [2][]string
	way      [2][]string // to each end
	now      int
}

func newRoad(t *testing.T, d *dice) *road {
	setup := func() channel.Setup {
		return channel.Setup{Room: 1 + d.of(d.upTo(3), d.upTo(63)), Wait: 1 + d.upTo(9), Beat: 1 + d.upTo(20)}
	}
	return &road{
		dice: d, t: t,
		ends:     [2]both{newBoth(t, setup(), epoch, api.Solo, 1, 0), newBoth(t, setup(), epoch, api.Backup, 2, 0)},
		stranger: newEnd(t, setup(), epoch+1, api.Joining, 3, 0),
	}
}

// goes puts letters onto the way from an end to the other one.
func (r *road) goes(from int, l ...string) { r.way[1-from] = append(r.way[1-from], l...) }

func (r *road) send(i int) {
	s := long(r.of(0, r.upTo(9), r.upTo(300))) + string(rune('a'+len(r.sent[i])%26))
	if l, e := r.ends[i].send(s, r.now); e == api.OK {
		r.sent[i] = append(r.sent[i], s)
		r.goes(i, l)
	}
}

// brings is a letter that comes to an end: what was taken so far is what was sent first, once, and in order.
func (r *road) brings(i int, s string) {
	r.t.Helper()
	l, _ := r.ends[i].take(s, r.now)
	r.taken[i] = append(r.taken[i], l...)
	r.stranger.drops(s, r.now, api.ErrEpoch)
	if n := len(r.taken[i]); n > len(r.sent[1-i]) || !slices.Equal(r.taken[i][n-len(l):], r.sent[1-i][n-len(l):n]) {
		r.t.Fatalf("%d: took %d, of which %q is wrong, of %d", i, n, l, len(r.sent[1-i]))
	}
}

// step is one thing that a bad link does, or an end.
func (r *road) step(send bool) {
	i := r.upTo(1)
	n := r.upTo(19)
	if len(r.way[i]) > 0 && n < 12 {
		k := r.of(0, 0, r.upTo(len(r.way[i])-1))
		s := r.way[i][k]
		if n > 1 { // else it is doubled
			r.way[i] = slices.Delete(r.way[i], k, k+1)
		}
		if n < 10 { // else it is lost
			r.brings(i, s)
		}
		return
	}
	if n < 16 {
		r.now += r.upTo(2)
		r.goes(i, r.ends[i].tick(r.now)...)
	} else if send {
		r.send(i)
	}
}

// 24.6: over a link that loses, doubles and turns, all that is sent comes once, whole, and in order; and as soon as enough comes, all of it.
func TestRoad(t *testing.T) {
	d := dice(6)
	sent := 0
	for range 50 {
		r := newRoad(t, &d)
		for range 1500 {
			r.step(true)
		}
		for n := 0; len(r.taken[0]) < len(r.sent[1]) || len(r.taken[1]) < len(r.sent[0]); n++ {
			if n > 50000 {
				t.Fatal("not all was taken", len(r.taken[0]), len(r.sent[1]), len(r.taken[1]), len(r.sent[0]))
			}
			r.step(false)
		}
		sent += len(r.sent[0]) + len(r.sent[1])
		r.stranger.heard(0, api.Down, 0)
		r.stranger.numbers(0, 0, 0)
	}
	if sent < 4000 {
		t.Error(sent)
	}
}

// 24.6: over a link that does nothing bad each letter goes once, and is acknowledged by the next beat.
func TestGoodRoad(t *testing.T) {
	a, b := newEnd(t, set, epoch, api.Solo, 1, 0), newEnd(t, set, epoch, api.Backup, 2, 0)
	for n := range 200 {
		s := long(n)
		l, e := a.x.Send(s, n)
		if got, f := b.x.Take(l, n); e != api.OK || f != api.OK || !slices.Equal(got, []string{s}) {
			t.Fatal(n, e, f)
		}
		told := b.x.Tick(n)
		if len(told) != 1 {
			t.Fatal(n, len(told))
		}
		if got, e := a.x.Take(told[0], n); len(got) != 0 || e != api.OK {
			t.Fatal(n, e)
		}
		a.numbers(n+1, n+1, 0)
		b.numbers(0, 0, n+1)
	}
}
