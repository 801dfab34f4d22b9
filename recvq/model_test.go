package recvq_test

import (
	"slices"
	"testing"

	"sternpost/api"
	"sternpost/recvq"
)

// cell is one number that was received.
type cell struct {
	number int
	b      byte
}

// slow is a queue as the words say it: every number that was ever received is kept, and all else is worked out from these.
type slow struct {
	first, room, read int
	cells             []cell
}

func (m *slow) clone() *slow {
	fork := *m
	fork.cells = slices.Clone(m.cells)
	return &fork
}

func (m *slow) find(number int) int {
	return slices.IndexFunc(m.cells, func(c cell) bool { return c.number == number })
}

// ordered is all that was received in order, from the first number on.
func (m *slow) ordered() (s string) {
	for {
		i := m.find((m.first + len(s)) % (1 << 32))
		if i < 0 {
			return s
		}
		s += string(m.cells[i].b)
	}
}

func (m *slow) next() int { return (m.first + len(m.ordered())) % (1 << 32) }

func (m *slow) ready() string { return m.ordered()[m.read:] }

func (m *slow) window() int { return m.room - len(m.ready()) }

func (m *slow) put(at int, s string) (int, api.Code) {
	if at < 0 || at > top || len(s) > api.MaxBytes {
		return 0, api.ErrRange
	}
	next, window := m.next(), m.window()
	for i := range len(s) {
		n := (at + i) % (1 << 32)
		if (n-next+1<<32)%(1<<32) < window && m.find(n) < 0 {
			m.cells = append(m.cells, cell{n, s[i]})
		}
	}
	return (m.next() - next + 1<<32) % (1 << 32), api.OK
}

func (m *slow) take(most int) (s string) {
	ready := m.ready()
	for len(s) < len(ready) && len(s) < most {
		s = ready[:len(s)+1]
	}
	m.read += len(s)
	return s
}

// apart goes over the window number by number.
func (m *slow) apart(most int) (l []api.Range) {
	next, inside := m.next(), false
	for i := range m.window() {
		n := (next + i) % (1 << 32)
		there := m.find(n) >= 0
		switch {
		case there && !inside:
			l = append(l, api.Range{From: n})
		case !there && inside:
			l[len(l)-1].To = n
		}
		inside = there
	}
	if inside {
		l[len(l)-1].To = (next + m.window()) % (1 << 32)
	}
	for len(l) > 0 && len(l) > most {
		l = l[:len(l)-1]
	}
	return l
}

// dice are numbers that look as if they were thrown, and are the same each time.
type dice uint64

func (d *dice) upTo(n int) int {
	*d = *d*6364136223846793005 + 1442695040888963407
	return int(uint64(*d)>>33) % (n + 1)
}

// text is bytes of ASCII, so that one of them is one letter.
func (d *dice) text(most int) string {
	b := make([]byte, d.upTo(most))
	for i := range b {
		b[i] = byte('a' + d.upTo(25))
	}
	return string(b)
}

// number is mostly one in the window or near by, now and then any other one, or none.
func (d *dice) number(m *slow) int {
	switch d.upTo(39) {
	case 0:
		return noNumbers[d.upTo(len(noNumbers)-1)]
	case 1:
		return d.upTo(1<<31-2)*2 + d.upTo(1)
	case 2, 3, 4:
		return m.next()
	case 5, 6, 7:
		return (m.next() - 1 - d.upTo(m.room/2) + 1<<32) % (1 << 32)
	default:
		return (m.next() + d.upTo(m.window()+1)) % (1 << 32)
	}
}

// length is up to most, or now and then one that is none, or is far too long.
func (d *dice) length(most int) int {
	switch d.upTo(29) {
	case 0:
		return below1[d.upTo(len(below1)-1)]
	case 1:
		return []int{1<<63 - 1, 1<<63 - 2, 1 << 32, 1<<32 + 1}[d.upTo(3)]
	default:
		return d.upTo(most)
	}
}

// walk is how the calls of one queue are thrown.
type walk struct {
	*dice
	came map[string]int
}

// step does one thing to a queue and to the slow one.
func (k *walk) step(t *testing.T, q *recvq.Queue, m *slow) {
	t.Helper()
	switch k.upTo(9) {
	case 0, 1:
		most := k.length(m.room / 2)
		want := m.take(most)
		reads(t, q, most, want)
		if want != "" {
			k.came["Read"]++
		}
	case 2:
		// What becomes of a fork must not be seen.
		fork, twin := q.Fork(), m.clone()
		for range k.upTo(2) {
			k.step(t, fork, twin)
			k.same(t, fork, twin)
		}
	default:
		k.put(t, q, m)
	}
}

func (k *walk) put(t *testing.T, q *recvq.Queue, m *slow) {
	t.Helper()
	at, s := k.number(m), k.text(1+m.room/4)
	kept := len(m.cells)
	want, wantE := m.put(at, s)
	if n, e := q.Put(at, s); n != want || e != wantE {
		t.Errorf("Put(%d, %q): %d, %d, want %d, %d", at, s, n, e, want, wantE)
	}
	kept = len(m.cells) - kept
	for kind, holds := range map[string]bool{
		"Put refused":      wantE != api.OK,
		"Put closes a gap": want > kept,
		"Put apart":        kept > 0 && want == 0,
		"Put of some":      kept > 0 && kept < len(s),
	} {
		if holds {
			k.came[kind]++
		}
	}
}

// same looks whether a queue tells what the slow one tells.
func (k *walk) same(t *testing.T, q *recvq.Queue, m *slow) {
	t.Helper()
	if next, ready, window := m.next(), len(m.ready()), m.window(); q.Next() != next || q.Ready() != ready || q.Window() != window {
		t.Errorf("next %d, ready %d, window %d, want %d, %d, %d", q.Next(), q.Ready(), q.Window(), next, ready, window)
	}
	most := k.length(4)
	want := m.apart(most)
	aparts(t, q, most, want...)
	if len(want) > 1 {
		k.came["two stretches"]++
	}
}

// 16.1 to 16.3: many calls of all kinds, at queues of little room and of more, at numbers that go round.
func TestWalks(t *testing.T) {
	came := map[string]int{}
	for seed := range 120 {
		d := dice(seed)
		k := &walk{dice: &d, came: came}
		m := &slow{room: 1 + d.upTo(1<<(1+seed%6)), first: (1<<32 - d.upTo(60)) % (1 << 32)}
		q := made(t, m.first, m.room)
		for range 200 {
			k.step(t, q, m)
			k.same(t, q, m)
			if t.Failed() {
				t.Fatalf("seed %d, room %d", seed, m.room)
			}
		}
	}
	for _, kind := range []string{"Read", "Put refused", "Put closes a gap", "Put apart", "Put of some", "two stretches"} {
		if came[kind] < 300 {
			t.Errorf("%s: only %d times", kind, came[kind])
		}
	}
}

// 16.4: what is read is what was sent, in order, and each byte once, whatever is lost, late or comes twice.
func TestAllComesOver(t *testing.T) {
	for seed := range 40 {
		d := dice(1000 + seed)
		text := d.text(900) + "."
		first := (1<<32 - d.upTo(len(text))) % (1 << 32)
		q := made(t, first, 1+d.upTo(40))
		got, went := "", 0
		for i := 0; got != text; i++ {
			if i > 100000 {
				t.Fatalf("seed %d: only %d of %d bytes came over", seed, len(got), len(text))
			}
			// Any piece of it may come, at any time: most of them near by what is missing, and some of them far off.
			from := min(max(went-20+d.upTo(60), 0), len(text)-1)
			if d.upTo(4) == 0 {
				from = d.upTo(len(text) - 1)
			}
			n, e := q.Put((first+from)%(1<<32), text[from:min(len(text), from+d.upTo(12))])
			if e != api.OK {
				t.Fatal(e)
			}
			went += n
			if q.Next() != (first+went)%(1<<32) || q.Ready() != went-len(got) {
				t.Fatalf("seed %d: next %d, ready %d behind %d bytes, of which %d were read", seed, q.Next(), q.Ready(), went, len(got))
			}
			got += q.Read(d.upTo(9))
			if got != text[:len(got)] {
				t.Fatalf("seed %d: %q was read, of %q", seed, got, text)
			}
		}
	}
}
