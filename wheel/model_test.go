package wheel_test

import (
	"slices"
	"testing"

	"sternpost/api"
	"sternpost/wheel"
)

// slow is a wheel as the words say it: its timers are in a list, in order.
type slow struct {
	now    int
	timers []timer
}

func (m *slow) find(number int) int {
	return slices.IndexFunc(m.timers, func(x timer) bool { return x.number == number })
}

func (m *slow) set(number, at int) api.Code {
	if number < 0 || number > mostNumber || at < 0 || at > api.MaxTick {
		return api.ErrRange
	}
	if m.find(number) < 0 && len(m.timers) == api.MaxItems {
		return api.ErrLong
	}
	m.drop(number)
	behind := func(x timer) bool { return x.at > at || x.at == at && x.number > number }
	place := slices.IndexFunc(m.timers, behind)
	if place < 0 {
		place = len(m.timers)
	}
	m.timers = slices.Insert(m.timers, place, timer{number, at})
	return api.OK
}

func (m *slow) drop(number int) api.Code {
	i := m.find(number)
	if i < 0 {
		return api.ErrNone
	}
	m.timers = slices.Delete(m.timers, i, i+1)
	return api.OK
}

func (m *slow) move(now int) (told []int, e api.Code) {
	if now < m.now || now > api.MaxTick {
		return nil, api.ErrRange
	}
	m.now = now
	for len(m.timers) > 0 && m.timers[0].at <= now {
		told = append(told, m.timers[0].number)
		m.timers = m.timers[1:]
	}
	return told, api.OK
}

// dice are numbers that look as if they were thrown, and are the same each time.
type dice uint64

func (d *dice) upTo(n int) int {
	*d = *d*6364136223846793005 + 1442695040888963407
	return int(uint64(*d)>>33) % (n + 1)
}

// among is a number of those from one on or, now and then, one of those that are refused.
func (d *dice) among(from, width int, refused []int) int {
	if d.upTo(19) == 0 {
		return refused[d.upTo(len(refused)-1)]
	}
	return from + d.upTo(width)
}

// walk is how the calls of one wheel are thrown.
type walk struct {
	*dice
	numbers, width, leap int
	came                 map[api.Code]int
	told                 int
}

// number is one of a timer that is there, or any.
func (k *walk) number(m *slow) int {
	if len(m.timers) > 0 && k.upTo(2) == 0 {
		return m.timers[k.upTo(len(m.timers)-1)].number
	}
	return k.among(0, k.numbers, noNumbers)
}

// step does one thing to a wheel and to the slow one.
func (k *walk) step(t *testing.T, w *wheel.Wheel, m *slow) {
	t.Helper()
	number := k.number(m)
	switch n := k.upTo(19); {
	case n < 14:
		at := k.among(max(m.now-k.width/4, 0), k.width, noTicks)
		e, want := w.Set(number, at), m.set(number, at)
		if e != want {
			t.Errorf("Set(%d, %d): %d, want %d", number, at, e, want)
		}
		k.came[e]++
	case n < 16:
		e, want := w.Drop(number), m.drop(number)
		if e != want {
			t.Errorf("Drop(%d): %d, want %d", number, e, want)
		}
		k.came[e]++
	default:
		now := k.among(m.now, k.leap, append(noTicks, m.now-1))
		told, e := w.Go(now)
		want, wantE := m.move(now)
		if !slices.Equal(told, want) || e != wantE {
			t.Errorf("Go(%d): %v, %d, want %v, %d", now, told, e, want, wantE)
		}
		k.told += len(told)
	}
}

// 14.1 to 14.3: many calls of all kinds, at wheels of few timers and of as many as there may be.
func TestWalks(t *testing.T) {
	came, told := map[api.Code]int{}, 0
	for seed := range 60 {
		d := dice(seed)
		k := &walk{dice: &d, numbers: 1 << (3 + 3*(seed%10)), width: 1 << (2 + seed%17), leap: 1 << d.upTo(6), came: came}
		m := &slow{now: d.upTo(100)}
		w := made(t, m.now)
		for range 4000 {
			k.step(t, w, m)
			same(t, w, m, k.number(m))
			if t.Failed() {
				t.Fatalf("seed %d, %d timers", seed, len(m.timers))
			}
		}
		told += k.told
	}
	if told < 10000 || came[api.ErrRange] < 1000 || came[api.ErrNone] < 1000 || came[api.ErrLong] < 1000 {
		t.Errorf("too few of a kind: %d told, %d times %d, %d times %d, %d times %d", told,
			came[api.ErrRange], api.ErrRange, came[api.ErrNone], api.ErrNone, came[api.ErrLong], api.ErrLong)
	}
}

// same looks whether a wheel tells what the slow one tells, of one of its timers, too.
func same(t *testing.T, w *wheel.Wheel, m *slow, number int) {
	t.Helper()
	least, some := timer{}, len(m.timers) > 0
	if some {
		least = m.timers[0]
	}
	if at, ok := w.Next(); at != least.at || ok != some {
		t.Errorf("Next: %d, %v, want %d, %v", at, ok, least.at, some)
	}
	one, i := timer{}, m.find(number)
	if i >= 0 {
		one = m.timers[i]
	}
	if at, ok := w.At(number); at != one.at || ok != (i >= 0) {
		t.Errorf("At(%d): %d, %v, want %d, %v", number, at, ok, one.at, i >= 0)
	}
	if w.Now() != m.now {
		t.Errorf("Now: %d, want %d", w.Now(), m.now)
	}
}
