package rto_test

import (
	"testing"

	"sternpost/api"
	"sternpost/rto"
)

// slow is an estimator that keeps all samples, and reckons anew from the first one on each time it is asked.
type slow struct {
	first, least, greatest int
	samples                []int
	backs                  int // since the last sample, all of them
}

func (m *slow) reckon() (mean, deviation int) {
	for i, n := range m.samples {
		if i == 0 {
			mean, deviation = 8*n, 2*n
			continue
		}
		whole := mean / 8
		apart := n - whole
		if n < whole {
			apart = whole - n
		}
		deviation = deviation - deviation/4 + apart
		mean = mean - whole + n
	}
	return mean, deviation
}

func (m *slow) wait() int {
	wait := m.first
	if len(m.samples) > 0 {
		mean, deviation := m.reckon()
		if deviation < 1 {
			deviation = 1
		}
		wait = mean/8 + deviation
	}
	if wait < m.least {
		wait = m.least
	}
	for range m.backs {
		if wait < m.greatest {
			wait *= 2
		}
	}
	if wait > m.greatest {
		wait = m.greatest
	}
	return wait
}

// dice are numbers that look as if they were thrown, and are the same each time.
type dice uint64

func (d *dice) upTo(n int) int {
	*d = *d*6364136223846793005 + 1442695040888963407
	return int(uint64(*d)>>33) % (n + 1)
}

// bounds are a first, a least and a greatest wait.
func (d *dice) bounds() (first, least, greatest int) {
	greatest = 1 + d.upTo(1<<d.upTo(20)-1)
	least = 1 + d.upTo(greatest-1)
	return least + d.upTo(greatest-least), least, greatest
}

// 13.1 to 13.4: whatever comes in whatever order, it is as the words say it.
func TestWalks(t *testing.T) {
	d := dice(13)
	for range 300 {
		first, least, greatest := d.bounds()
		r, m := made(t, first, least, greatest), &slow{first: first, least: least, greatest: greatest}
		width := 1 << d.upTo(20)
		for range 120 {
			step(t, &d, width, r, m)
			mean, deviation := m.reckon()
			is(t, r, mean, deviation, min(m.backs, 32), m.wait())
			between(t, r, least, greatest)
			if d.upTo(9) == 0 {
				r = r.Fork()
			}
		}
		if t.Failed() {
			t.Fatal(first, least, greatest, m.samples, m.backs)
		}
	}
}

// step does one thing to an estimator and to the slow one.
func step(t *testing.T, d *dice, width int, r *rto.Rto, m *slow) {
	t.Helper()
	switch d.upTo(5) {
	case 0, 1:
		m.backs++
		backs(t, r, m.wait())
	case 2:
		if e := r.Sample(most + 1 + d.upTo(width)); e != api.ErrRange {
			t.Errorf("a sample that is too long: %d", e)
		}
		if e := r.Sample(-1 - d.upTo(width)); e != api.ErrRange {
			t.Errorf("a sample that is too short: %d", e)
		}
	default:
		n := d.upTo(width)
		m.samples, m.backs = append(m.samples, n), 0
		takes(t, r, n)
	}
}

// 13.4
func between(t *testing.T, r *rto.Rto, least, greatest int) {
	t.Helper()
	if w := r.Wait(); w < least || w > greatest {
		t.Errorf("Wait: %d, want one from %d to %d", w, least, greatest)
	}
}

// 13.4: samples that are all alike bring the mean to just that; what is left of a deviation of which a fourth is cut to 0 (1 to 3 ticks) is all that the wait is longer.
func TestAlike(t *testing.T) {
	d := dice(4)
	for _, n := range []int{0, 1, 2, 3, 7, 8, 40, 1000, 65535, most - 4, most - 3, most - 1, most} {
		for range 40 {
			first, least, greatest := d.bounds()
			r := made(t, first, least, greatest)
			for range d.upTo(3) {
				takes(t, r, d.upTo(most))
				r.Back()
			}
			for range 400 {
				takes(t, r, n)
				between(t, r, least, greatest)
			}
			settled(t, r, n, least, greatest)
			if t.Failed() {
				t.Fatal(n, first, least, greatest)
			}
		}
	}
}

// settled looks whether many samples of n ticks have brought an estimator to where it stays.
func settled(t *testing.T, r *rto.Rto, n, least, greatest int) {
	t.Helper()
	mean, deviation, _ := r.State()
	if mean/8 != n || deviation < 0 || deviation > 3 {
		t.Errorf("State: %d, %d, want a mean of %d, and a deviation of at most 3", mean, deviation, n)
	}
	is(t, r, mean, deviation, 0, min(max(n+max(deviation, 1), least), greatest))
	takes(t, r, n)
	is(t, r, mean, deviation, 0, min(max(n+max(deviation, 1), least), greatest))
}

// 13.4: of estimators whose first sample is the one that stays, up to where the wait falls: never below that, and never longer than ahead.
func TestAlikeFalls(t *testing.T) {
	for _, n := range []int{0, 1, 2, 3, 4, 5, 40, 1000, 300000} {
		r := made(t, most, 1, most)
		for range 100 {
			ahead := r.Wait()
			takes(t, r, n)
			if w := r.Wait(); w > ahead || w <= n {
				t.Errorf("Sample(%d): a wait of %d behind one of %d", n, w, ahead)
			}
		}
		settled(t, r, n, 1, most)
	}
}
