package cong_test

import (
	"testing"

	"sternpost/cong"
)

// slow is a valve as the words say it, word by word.
type slow struct {
	mss int
	shown
}

func counts(n int) int {
	switch {
	case n < 0:
		return 0
	case n > most:
		return most
	}
	return n
}

func (m *slow) bounded() {
	if m.window > most {
		m.window = most
	}
}

func (m *slow) halved(flight int) {
	m.threshold = counts(flight) / 2
	if m.threshold < 2*m.mss {
		m.threshold = 2 * m.mss
	}
}

func (m *slow) acked(n, up int) bool {
	defer m.bounded()
	n = counts(n)
	switch {
	// Half a round and more on is below 0 in 32 bits with a sign.
	case m.mending && int32(uint32(up)-uint32(m.up)) >= 0:
		m.window, m.mending, m.up, m.same = m.threshold, false, 0, 0
		return false
	case m.mending:
		m.window -= n
		if m.window < 0 {
			m.window = 0
		}
		if n >= m.mss {
			m.window += m.mss
		}
		if m.window < m.mss {
			m.window = m.mss
		}
		return true
	}
	m.same = 0
	switch {
	case m.window < m.threshold && n > m.mss:
		m.window += m.mss
	case m.window < m.threshold:
		m.window += n
	case m.gathered+n < m.window:
		m.gathered += n
	default:
		m.gathered += n - m.window
		m.window += m.mss
	}
	return false
}

func (m *slow) told(flight, next int) bool {
	defer m.bounded()
	if m.same < most {
		m.same++
	}
	switch {
	case m.mending:
		m.window += m.mss
	case m.same == 3:
		m.halved(flight)
		m.window, m.mending, m.up = m.threshold+3*m.mss, true, int(uint32(next))
		return true
	}
	return false
}

func (m *slow) late(flight int) {
	m.halved(flight)
	m.shown = shown{window: m.mss, threshold: m.threshold}
}

// dice are numbers that look as if they were thrown, and are the same each time.
type dice uint64

func (d *dice) upTo(n int) int {
	*d = *d*6364136223846793005 + 1442695040888963407
	return int(uint64(*d)>>33) % (n + 1)
}

func (d *dice) of(l []int) int { return l[d.upTo(len(l)-1)] }

// bytes is mostly some segments, now and then none, or far too many.
func (d *dice) bytes(m *slow) int {
	switch d.upTo(19) {
	case 0:
		return d.of(negatives)
	case 1:
		return d.of(hugeNumbers)
	case 2:
		return d.upTo(1 << d.upTo(20))
	case 3, 4:
		return m.mss + d.upTo(2) - 1
	case 5:
		return m.window + d.upTo(2) - 1
	default:
		return d.upTo(3 * m.mss)
	}
}

// number is mostly one near that to which is mended, now and then any other one, or none.
func (d *dice) number(m *slow) int {
	switch d.upTo(19) {
	case 0:
		return farNumbers[d.upTo(len(farNumbers)-1)][0]
	case 1:
		return d.upTo(1<<31-2)*2 + d.upTo(1)
	case 2:
		return (m.up + half + d.upTo(2) - 1) % (1 << 32)
	case 3, 4:
		return (m.up + d.upTo(1<<12)) % (1 << 32)
	default:
		return (m.up - d.upTo(1<<12) + 1<<32) % (1 << 32)
	}
}

// step does one thing to a valve and to the slow one; what it was is counted.
func (d *dice) step(t *testing.T, v *cong.Valve, m *slow, came map[string]int) {
	t.Helper()
	mending := m.mending
	switch kind := d.upTo(79); {
	case kind < 1:
		n := d.bytes(m)
		m.late(n)
		v.Late(n)
		came["late"]++
	case kind < 3:
		// What becomes of a fork must not be seen.
		fork, twin := v.Fork(), *m
		for range d.upTo(4) {
			d.step(t, fork, &twin, came)
			is(t, fork, twin.shown)
		}
		came["fork"]++
	case kind < 30:
		n, next := d.bytes(m), d.number(m)
		same(t, v, n, next, m.told(n, next))
		if !mending && m.mending {
			came["loss"]++
		}
	default:
		n, up := d.bytes(m), d.number(m)
		window, threshold := m.window, m.threshold
		again := m.acked(n, up)
		acked(t, v, n, up, again)
		for what, holds := range map[string]bool{
			"mended":           mending && !again,
			"mending on":       again,
			"below threshold":  !mending && window < threshold,
			"window gathered":  !mending && window >= threshold && m.window > window,
			"gathered towards": !mending && window >= threshold && m.window == window,
		} {
			if holds {
				came[what]++
			}
		}
	}
}

// 17.1 to 17.5: whatever comes in whatever order, it is as the words say it.
func TestWalks(t *testing.T) {
	d, came := dice(17), map[string]int{}
	for range 400 {
		mss := 1 + d.upTo(d.of([]int{0, 3, 99, 535, 1459}))
		v := made(t, mss)
		m := &slow{mss, shown{window: min(4*mss, 4380), threshold: most}}
		for range 300 {
			d.step(t, v, m, came)
			is(t, v, m.shown)
			if w := v.Window(); w < mss || w > most {
				t.Errorf("Window: %d, of an MSS of %d", w, mss)
			}
			if d.upTo(9) == 0 {
				v = v.Fork()
			}
			if t.Failed() {
				t.FailNow()
			}
		}
	}
	for _, what := range []string{"late", "fork", "loss", "mended", "mending on", "below threshold", "window gathered", "gathered towards"} {
		if came[what] < 1000 {
			t.Errorf("%s: came %d times", what, came[what])
		}
	}
}

// 17.5: as many calls as one likes leave the window where it may be, and a wait that is over makes it one MSS.
func TestWindowBetween(t *testing.T) {
	d := dice(5)
	for _, mss := range []int{1, 2, 100, 536, 1460} {
		v := made(t, mss)
		for range 20000 {
			n, up := d.upTo(1<<d.upTo(21)), d.upTo(7)
			switch d.upTo(2) {
			case 0:
				v.Acked(n, up)
			default:
				v.Same(n, up)
			}
			if w := v.Window(); w < mss || w > most {
				t.Fatalf("Window: %d, of an MSS of %d", w, mss)
			}
			late := v.Fork()
			late.Late(n)
			if late.Window() != mss {
				t.Fatalf("Window once it was late: %d, of an MSS of %d", late.Window(), mss)
			}
		}
	}
}
