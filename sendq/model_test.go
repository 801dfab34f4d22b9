package sendq_test

import (
	"math"
	"testing"

	"sternpost/api"
	"sternpost/sendq"
)

// cell is one byte of a queue, with its number.
type cell struct {
	number      int
	b           byte
	sent, apart bool
}

// slow is a queue as the words say it: byte by byte, each with its number.
type slow struct {
	room  int
	free  int // the number of the next byte that is written
	cells []cell
}

func (m *slow) clone() *slow {
	fork := *m
	fork.cells = append([]cell{}, m.cells...)
	return &fork
}

func (m *slow) write(s string) (n int, e api.Code) {
	if s != "" && len(m.cells) == m.room {
		return 0, api.ErrFull
	}
	for n < len(s) && len(m.cells) < m.room {
		m.cells = append(m.cells, cell{number: m.free, b: s[n]})
		m.free = (m.free + 1) % (1 << 32)
		n++
	}
	return n, api.OK
}

func (m *slow) left() int {
	if len(m.cells) > 0 {
		return m.cells[0].number
	}
	return m.free
}

func (m *slow) next() int {
	for _, c := range m.cells {
		if !c.sent {
			return c.number
		}
	}
	return m.free
}

// find is how many bytes lie ahead of a number that is from left to next, or -1.
func (m *slow) find(n int) int {
	for i, c := range m.cells {
		if c.number == n {
			return i
		}
		if !c.sent {
			return -1
		}
	}
	if n == m.free {
		return len(m.cells)
	}
	return -1
}

func (m *slow) ack(n int) (int, api.Code) {
	gone := m.find(n)
	if gone < 0 {
		return 0, api.ErrRange
	}
	m.cells = m.cells[gone:]
	return gone, api.OK
}

func (m *slow) hear(l []api.Range) (n int) {
	for _, r := range l {
		from, to := m.find(r.From), m.find(r.To)
		if from < 0 || to < 0 {
			continue
		}
		for i := from; i < to; i++ {
			m.cells[i].apart = true
		}
	}
	for _, c := range m.cells {
		if c.apart {
			n++
		}
	}
	return n
}

func (m *slow) send(window, most int) (at int, s string) {
	at = m.next()
	for i := range m.cells {
		if m.cells[i].sent {
			continue
		}
		if i >= window || len(s) >= most {
			break
		}
		m.cells[i].sent = true
		s += string(m.cells[i].b)
	}
	return at, s
}

func (m *slow) hole(most int) (at int, s string) {
	at = m.left()
	for _, c := range m.cells {
		if !c.sent || len(s) >= most || c.apart && s != "" {
			break
		}
		if c.apart {
			continue
		}
		if s == "" {
			at = c.number
		}
		s += string(c.b)
	}
	return at, s
}

func (m *slow) probe() (at int, s string) {
	if len(m.cells) == 0 {
		return m.left(), ""
	}
	m.cells[0].sent = true
	return m.left(), string(m.cells[0].b)
}

// dice are numbers that look as if they were thrown, and are the same each time.
type dice uint64

func (d *dice) upTo(n int) int {
	*d = *d*6364136223846793005 + 1442695040888963407
	return int(uint64(*d)>>33) % (n + 1)
}

// text is bytes of ASCII, so that one of them is one letter.
func (d *dice) text(most int) string {
	b := make([]byte, d.upTo(most))
	for i := range b {
		b[i] = byte('a' + d.upTo(25))
	}
	return string(b)
}

// number is mostly one that lies near by what was sent, now and then any other one, or none.
func (d *dice) number(m *slow) int {
	long := (m.next() - m.left() + 1<<32) % (1 << 32)
	switch d.upTo(39) {
	case 0:
		return noNumbers[d.upTo(len(noNumbers)-1)]
	case 1:
		return d.upTo(1<<31-2)*2 + d.upTo(1)
	case 2:
		return (m.left() + top - d.upTo(3)) % (1 << 32)
	case 3:
		return (m.next() + d.upTo(4)) % (1 << 32)
	default:
		return (m.left() + d.upTo(long)) % (1 << 32)
	}
}

// length is up to most, or now and then one that is none, or is far too long.
func (d *dice) length(most int) int {
	switch d.upTo(29) {
	case 0:
		return below1[d.upTo(len(below1)-1)]
	case 1:
		return []int{math.MaxInt, math.MaxInt - 1, 1 << 32, 1<<32 + 1}[d.upTo(3)]
	default:
		return d.upTo(most)
	}
}

// walk is how the calls of one queue are thrown.
type walk struct {
	*dice
	came map[string]int
}

// agree looks whether a call that tells bytes told the same of both queues.
func (k *walk) agree(t *testing.T, call string, at int, s string, wantAt int, want string) {
	t.Helper()
	if at != wantAt || s != want {
		t.Errorf("%s: %d %q, want %d %q", call, at, s, wantAt, want)
	}
	if s != "" {
		k.came[call]++
	}
}

// count is agree of calls that tell a number.
func (k *walk) count(t *testing.T, call string, n int, e api.Code, want int, wantE api.Code) {
	t.Helper()
	if n != want || e != wantE {
		t.Errorf("%s: %d, %d, want %d, %d", call, n, e, want, wantE)
	}
	switch {
	case e != api.OK:
		k.came[call+" refused"]++
	case n > 0:
		k.came[call]++
	}
}

// step does one thing to a queue and to the slow one.
func (k *walk) step(t *testing.T, q *sendq.Queue, m *slow) {
	t.Helper()
	switch k.upTo(9) {
	case 0, 1:
		s := k.text(m.room)
		n, e := q.Write(s)
		want, wantE := m.write(s)
		k.count(t, "Write", n, e, want, wantE)
	case 2:
		number := k.number(m)
		gone, e := q.Ack(number)
		want, wantE := m.ack(number)
		k.count(t, "Ack", gone, e, want, wantE)
	case 3, 4, 5:
		window, most := k.length(m.room+2), k.length(m.room/2)
		at, s := q.Next(window, most)
		wantAt, want := m.send(window, most)
		k.agree(t, "Next", at, s, wantAt, want)
	case 6, 7:
		var l []api.Range
		for range k.upTo(4) {
			l = append(l, api.Range{From: k.number(m), To: k.number(m)})
		}
		k.count(t, "Apart", q.Apart(l...), api.OK, m.hear(l), api.OK)
	case 8:
		at, s := q.Probe()
		wantAt, want := m.probe()
		k.agree(t, "Probe", at, s, wantAt, want)
	default:
		// What becomes of a fork must not be seen.
		fork, twin := q.Fork(), m.clone()
		for range k.upTo(1) {
			k.step(t, fork, twin)
			k.same(t, fork, twin)
		}
	}
}

// same looks whether a queue tells what the slow one tells.
func (k *walk) same(t *testing.T, q *sendq.Queue, m *slow) {
	t.Helper()
	has(t, q, m.left(), m.next(), len(m.cells))
	most := k.length(m.room)
	at, s := q.Hole(most)
	wantAt, want := m.hole(most)
	k.agree(t, "Hole", at, s, wantAt, want)
	if at != m.left() {
		k.came["Hole behind left"]++
	}
	if n, want := q.Apart(), m.hear(nil); n != want {
		t.Errorf("Apart(): %d, want %d", n, want)
	}
}

// 15.1 to 15.3: many calls of all kinds, at queues of little room and of more, at numbers that go round.
func TestWalks(t *testing.T) {
	came := map[string]int{}
	for seed := range 60 {
		d := dice(seed)
		k := &walk{dice: &d, came: came}
		m := &slow{room: 1 + d.upTo(1<<(1+seed%7)), free: (1<<32 - d.upTo(200)) % (1 << 32)}
		q := made(t, m.free, m.room)
		for range 4000 {
			k.step(t, q, m)
			k.same(t, q, m)
			if t.Failed() {
				t.Fatalf("seed %d, room %d", seed, m.room)
			}
		}
	}
	for _, kind := range []string{"Write", "Write refused", "Ack", "Ack refused", "Next", "Apart", "Probe", "Hole", "Hole behind left"} {
		if came[kind] < 1000 {
			t.Errorf("%s: only %d times", kind, came[kind])
		}
	}
}

// far is another side: it takes what comes in order, and keeps the rest apart.
type far struct {
	next  int
	got   string
	apart map[int]byte
}

func (f *far) take(at int, s string) {
	for i := range len(s) {
		f.apart[(at+i)%(1<<32)] = s[i]
	}
	for {
		b, there := f.apart[f.next]
		if !there {
			return
		}
		delete(f.apart, f.next)
		f.got += string(b)
		f.next = (f.next + 1) % (1 << 32)
	}
}

// ranges is what is apart, byte by byte.
func (f *far) ranges() (l []api.Range) {
	for n := range f.apart {
		l = append(l, api.Range{From: n, To: (n + 1) % (1 << 32)})
	}
	return l
}

// 15.4: what is sent, piece by piece, is what was written, in order, and once; and it comes over whatever is lost on its way, as what is not acknowledged stays.
func TestAllComesOver(t *testing.T) {
	for seed := range 40 {
		d := dice(1000 + seed)
		text := d.text(600) + "."
		first := (1<<32 - d.upTo(len(text))) % (1 << 32)
		q, f := made(t, first, 1+d.upTo(40)), &far{next: first, apart: map[int]byte{}}
		arrives := func(at int, s string) {
			if d.upTo(2) > 0 {
				f.take(at, s)
			}
		}
		rest, pieces := text, ""
		for i := 0; f.got != text; i++ {
			if i > 100000 {
				t.Fatalf("seed %d: only %d of %d bytes came over", seed, len(f.got), len(text))
			}
			n, _ := q.Write(rest[:min(len(rest), d.upTo(20))])
			rest = rest[n:]
			_, sentTo, _ := q.State()
			at, s := q.Next(d.upTo(30), d.upTo(9))
			if at != sentTo || at != (first+len(pieces))%(1<<32) {
				t.Fatalf("seed %d: Next at %d, of %d, behind %d bytes", seed, at, sentTo, len(pieces))
			}
			pieces += s
			arrives(at, s)
			arrives(q.Hole(d.upTo(9)))
			if d.upTo(2) == 0 {
				q.Ack(f.next)
				q.Apart(f.ranges()...)
			}
		}
		_, _, long := q.State()
		acks(t, q, f.next, long)
		if pieces != text {
			t.Errorf("seed %d: %q was sent, of %q", seed, pieces, text)
		}
		holds(t, q, f.next, "", "")
	}
}
