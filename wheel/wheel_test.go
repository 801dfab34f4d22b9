package wheel_test

import (
	"math"
	"slices"
	"testing"

	"sternpost/api"
	"sternpost/wheel"
)

const mostNumber = 1 << 30

// noTicks are numbers that are no ticks.
var noTicks = []int{-1, -2, api.MaxTick + 1, api.MaxTick + 2, math.MinInt, math.MinInt + 1, math.MaxInt, math.MaxInt - 1}

// noNumbers are numbers that no timer has.
var noNumbers = []int{-1, -2, mostNumber + 1, 1 << 32, 1<<32 + 7, math.MinInt, math.MinInt + 1, math.MaxInt, math.MaxInt - 1}

// made is a wheel that may not be refused.
func made(t *testing.T, now int) *wheel.Wheel {
	t.Helper()
	w, e := wheel.New(now)
	if e != api.OK || w == nil {
		t.Fatalf("New(%d): %v, %d", now, w, e)
	}
	return w
}

// timer is a number, and the tick at which it is due.
type timer struct{ number, at int }

// sets looks whether none of these timers is refused.
func sets(t *testing.T, w *wheel.Wheel, timers ...timer) {
	t.Helper()
	for _, x := range timers {
		if e := w.Set(x.number, x.at); e != api.OK {
			t.Errorf("Set(%d, %d): %d", x.number, x.at, e)
		}
	}
}

func setRefused(t *testing.T, w *wheel.Wheel, number, at int, want api.Code) {
	t.Helper()
	if e := w.Set(number, at); e != want {
		t.Errorf("Set(%d, %d): %d, want error %d", number, at, e, want)
	}
}

// drops looks what becomes of dropping a timer.
func drops(t *testing.T, w *wheel.Wheel, number int, want api.Code) {
	t.Helper()
	if e := w.Drop(number); e != want {
		t.Errorf("Drop(%d): %d, want %d", number, e, want)
	}
}

// goes looks whether just these timers are told at a tick, in this order.
func goes(t *testing.T, w *wheel.Wheel, now int, want ...int) {
	t.Helper()
	if numbers, e := w.Go(now); e != api.OK || !slices.Equal(numbers, want) {
		t.Errorf("Go(%d): %v, %d, want %v", now, numbers, e, want)
	}
	if w.Now() != now {
		t.Errorf("Now: %d, want %d", w.Now(), now)
	}
}

func goRefused(t *testing.T, w *wheel.Wheel, now int) {
	t.Helper()
	if numbers, e := w.Go(now); e != api.ErrRange || len(numbers) != 0 {
		t.Errorf("Go(%d): %v, %d, want error %d", now, numbers, e, api.ErrRange)
	}
}

// has looks at all that a wheel tells of its tick and of its timers, twice, as asking may change nothing.
func has(t *testing.T, w *wheel.Wheel, now int, timers ...timer) {
	t.Helper()
	for range 2 {
		if w.Now() != now {
			t.Errorf("Now: %d, want %d", w.Now(), now)
		}
		least := timer{}
		for i, x := range timers {
			if at, ok := w.At(x.number); at != x.at || !ok {
				t.Errorf("At(%d): %d, %v, want %d", x.number, at, ok, x.at)
			}
			if i == 0 || x.at < least.at {
				least = x
			}
		}
		if at, ok := w.Next(); at != least.at || ok != (len(timers) > 0) {
			t.Errorf("Next: %d, %v, want %d, %v", at, ok, least.at, len(timers) > 0)
		}
	}
}

// without looks whether none of these timers is there.
func without(t *testing.T, w *wheel.Wheel, numbers ...int) {
	t.Helper()
	for _, n := range numbers {
		if at, ok := w.At(n); at != 0 || ok {
			t.Errorf("At(%d): %d, %v, want none", n, at, ok)
		}
	}
}

// 14.1
func TestNew(t *testing.T) {
	for _, now := range []int{0, 1, 3, 1 << 20, 1 << 32, api.MaxTick - 1, api.MaxTick} {
		w := made(t, now)
		has(t, w, now)
		without(t, w, 0, 1, mostNumber, now)
		without(t, w, noNumbers...)
		drops(t, w, 0, api.ErrNone)
		goes(t, w, now)
		has(t, w, now)
	}
}

// 14.1
func TestNewRefused(t *testing.T) {
	for _, now := range noTicks {
		if w, e := wheel.New(now); w != nil || e != api.ErrRange {
			t.Errorf("New(%d): %v, %d, want error %d", now, w, e, api.ErrRange)
		}
	}
}

// 14.1: two wheels have nothing to do with each other.
func TestTwo(t *testing.T) {
	a, b := made(t, 3), made(t, 3)
	sets(t, a, timer{1, 5}, timer{2, 6})
	has(t, b, 3)
	without(t, b, 1, 2)
	sets(t, b, timer{1, 9})
	goes(t, a, 7, 1, 2)
	has(t, b, 3, timer{1, 9})
	drops(t, b, 1, api.OK)
	goes(t, b, 9)
	has(t, a, 7)
}

// 14.1: when a timer is due, and the least of these ticks, wherever the wheel's own one is.
func TestAtAndNext(t *testing.T) {
	w := made(t, 50)
	sets(t, w, timer{7, 90})
	has(t, w, 50, timer{7, 90})
	sets(t, w, timer{8, 90})
	has(t, w, 50, timer{7, 90}, timer{8, 90})
	sets(t, w, timer{9, 91})
	has(t, w, 50, timer{7, 90}, timer{8, 90}, timer{9, 91})
	sets(t, w, timer{100, 89})
	has(t, w, 50, timer{7, 90}, timer{8, 90}, timer{9, 91}, timer{100, 89})
	sets(t, w, timer{3, 50}, timer{4, 49}, timer{5, 0})
	has(t, w, 50, timer{7, 90}, timer{8, 90}, timer{9, 91}, timer{100, 89}, timer{3, 50}, timer{4, 49}, timer{5, 0})
	without(t, w, 0, 1, 2, 6, 10, 49, 50, 89, 90, 91, mostNumber)
	without(t, w, noNumbers...)
	drops(t, w, 5, api.OK)
	has(t, w, 50, timer{7, 90}, timer{4, 49})
	goes(t, w, 50, 4, 3)
	has(t, w, 50, timer{7, 90}, timer{8, 90}, timer{9, 91}, timer{100, 89})
}

// 14.1: a tick of 0, and one that is the last, are such as others are.
func TestNextAtEdges(t *testing.T) {
	w := made(t, 0)
	sets(t, w, timer{0, api.MaxTick})
	has(t, w, 0, timer{0, api.MaxTick})
	sets(t, w, timer{mostNumber, 0})
	has(t, w, 0, timer{mostNumber, 0}, timer{0, api.MaxTick})
}

// Chapter 14, example 1.
func TestExample(t *testing.T) {
	w := made(t, 0)
	sets(t, w, timer{7, 5}, timer{3, 5}, timer{9, 2})
	goes(t, w, 4, 9)
	goes(t, w, 5, 3, 7)
	has(t, w, 5)
}

// 14.2: the edges of numbers and of ticks.
func TestSet(t *testing.T) {
	for _, x := range []timer{{0, 0}, {0, api.MaxTick}, {mostNumber, 0}, {mostNumber, api.MaxTick}, {1, api.MaxTick - 1}, {mostNumber - 1, 1}} {
		w := made(t, 0)
		sets(t, w, x)
		has(t, w, 0, x)
		goes(t, w, x.at, x.number)
		has(t, w, x.at)
		without(t, w, x.number)
	}
}

// 14.2: what is refused changes nothing, neither the timer that is there nor one that is not.
func TestSetRefused(t *testing.T) {
	w := made(t, 3)
	sets(t, w, timer{0, 7}, timer{mostNumber, 9})
	for _, n := range noNumbers {
		setRefused(t, w, n, 5, api.ErrRange)
		setRefused(t, w, n, 0, api.ErrRange)
		setRefused(t, w, n, -1, api.ErrRange)
		without(t, w, n)
		drops(t, w, n, api.ErrNone)
	}
	for _, at := range noTicks {
		setRefused(t, w, 0, at, api.ErrRange)
		setRefused(t, w, mostNumber, at, api.ErrRange)
		setRefused(t, w, 1, at, api.ErrRange)
		without(t, w, 1)
	}
	has(t, w, 3, timer{0, 7}, timer{mostNumber, 9})
	goes(t, w, api.MaxTick, 0, mostNumber)
}

// 14.2: a timer that is set again is due then, later or sooner, and only then.
func TestSetAgain(t *testing.T) {
	w := made(t, 0)
	sets(t, w, timer{1, 5}, timer{2, 5}, timer{3, 9}, timer{1, 8}, timer{3, 4}, timer{2, 5})
	has(t, w, 0, timer{1, 8}, timer{2, 5}, timer{3, 4})
	goes(t, w, 4, 3)
	goes(t, w, 5, 2)
	goes(t, w, 7)
	goes(t, w, 8, 1)
	goes(t, w, 9)
	sets(t, w, timer{1, 12}, timer{1, 11}, timer{1, 12})
	goes(t, w, 11)
	goes(t, w, 12, 1)
	has(t, w, 12)
}

// 14.2: one that is due at the wheel's tick, or ahead of it, waits for the next Go, which may be at the same tick.
func TestSetInThePast(t *testing.T) {
	w := made(t, 20)
	sets(t, w, timer{1, 20}, timer{2, 19}, timer{3, 0}, timer{4, 21})
	goes(t, w, 20, 3, 2, 1)
	goes(t, w, 20)
	sets(t, w, timer{1, 20}, timer{5, 3})
	has(t, w, 20, timer{1, 20}, timer{5, 3}, timer{4, 21})
	goes(t, w, 20, 5, 1)
	sets(t, w, timer{1, 1}, timer{1, 22})
	goes(t, w, 21, 4)
	goes(t, w, 22, 1)
}

// 14.2
func TestDrop(t *testing.T) {
	w := made(t, 3)
	sets(t, w, timer{1, 5}, timer{2, 5}, timer{0, 0}, timer{mostNumber, 6})
	for _, n := range noNumbers {
		drops(t, w, n, api.ErrNone)
	}
	drops(t, w, 5, api.ErrNone)
	drops(t, w, 3, api.ErrNone)
	drops(t, w, 2, api.OK)
	drops(t, w, 2, api.ErrNone)
	without(t, w, 2)
	has(t, w, 3, timer{0, 0}, timer{1, 5}, timer{mostNumber, 6})
	drops(t, w, 0, api.OK)
	without(t, w, 0)
	has(t, w, 3, timer{1, 5}, timer{mostNumber, 6})
	goes(t, w, 5, 1)
	drops(t, w, 1, api.ErrNone)
	drops(t, w, mostNumber, api.OK)
	has(t, w, 5)
	goes(t, w, 6)
	sets(t, w, timer{2, 7})
	goes(t, w, 7, 2)
}

// 14.2: a tick that goes back, or is none, changes nothing.
func TestGoRefused(t *testing.T) {
	w := made(t, 10)
	sets(t, w, timer{1, 4}, timer{2, 12}, timer{3, api.MaxTick})
	refused := func(now int, timers ...timer) {
		t.Helper()
		for _, n := range append([]int{now - 1, 0, 1}, noTicks...) {
			goRefused(t, w, n)
			has(t, w, now, timers...)
		}
	}
	refused(10, timer{1, 4}, timer{2, 12}, timer{3, api.MaxTick})
	goes(t, w, 10, 1)
	refused(10, timer{2, 12}, timer{3, api.MaxTick})
	goes(t, w, 11)
	refused(11, timer{2, 12}, timer{3, api.MaxTick})
	goes(t, w, api.MaxTick, 2, 3)
	refused(api.MaxTick)
	goes(t, w, api.MaxTick)
	sets(t, w, timer{2, 12})
	goes(t, w, api.MaxTick, 2)
}

// 14.2: the first Go may be at tick 0, and at none that is below.
func TestGoAtZero(t *testing.T) {
	w := made(t, 0)
	sets(t, w, timer{2, 0}, timer{1, 1})
	goRefused(t, w, -1)
	goes(t, w, 0, 2)
	goes(t, w, 0)
	goes(t, w, 1, 1)
}

// 14.2: by ticks first, then by numbers, in whatever order they were set.
func TestOrder(t *testing.T) {
	timers := []timer{{900, 0}, {0, 2}, {7, 2}, {8, 2}, {mostNumber, 2}, {6, 3}, {10, 9}, {9, 10}, {2, 1 << 33}, {1, 1<<33 + 1}, {5, api.MaxTick}}
	var want []int
	for _, x := range timers {
		want = append(want, x.number)
	}
	d := dice(14)
	for range 200 {
		w := made(t, d.upTo(20))
		shuffled := slices.Clone(timers)
		for i := range shuffled {
			j := d.upTo(i)
			shuffled[i], shuffled[j] = shuffled[j], shuffled[i]
		}
		sets(t, w, shuffled...)
		goes(t, w, api.MaxTick, want...)
		has(t, w, api.MaxTick)
		without(t, w, want...)
		if t.Failed() {
			t.Fatal(shuffled)
		}
	}
}

// 14.2: as many timers as there may be; one that is there may be set even then, and one that goes makes room.
func TestMostTimers(t *testing.T) {
	w := made(t, 0)
	var all []int
	for n := range api.MaxItems {
		sets(t, w, timer{n, 60})
		all = append(all, n)
	}
	setRefused(t, w, api.MaxItems, 60, api.ErrLong)
	setRefused(t, w, mostNumber, 0, api.ErrLong)
	without(t, w, api.MaxItems, mostNumber)
	setRefused(t, w, mostNumber+1, 60, api.ErrRange)
	setRefused(t, w, api.MaxItems, -1, api.ErrRange)
	setRefused(t, w, 3, api.MaxTick+1, api.ErrRange)
	sets(t, w, timer{5, 61}, timer{6, 59}, timer{7, 60})
	setRefused(t, w, api.MaxItems, 60, api.ErrLong)

	drops(t, w, 8, api.OK)
	sets(t, w, timer{mostNumber, 62})
	setRefused(t, w, 8, 60, api.ErrLong)
	goes(t, w, 59, 6)
	sets(t, w, timer{8, 60})
	setRefused(t, w, 6, 60, api.ErrLong)
	has(t, w, 59, timer{0, 60}, timer{5, 61}, timer{7, 60}, timer{8, 60}, timer{mostNumber, 62})

	goes(t, w, 60, slices.DeleteFunc(all, func(n int) bool { return n == 5 || n == 6 })...)
	has(t, w, 60, timer{5, 61}, timer{mostNumber, 62})
	for n := range api.MaxItems - 2 {
		sets(t, w, timer{n + 6, 70})
	}
	setRefused(t, w, 0, 70, api.ErrLong)
	goes(t, w, 62, 5, mostNumber)
	sets(t, w, timer{0, 70}, timer{1, 70})
	setRefused(t, w, 2, 70, api.ErrLong)
}

// 14.2, 14.3: once all timers were told, the wheel has none, and takes as many as a new one does.
func TestAllAtOnce(t *testing.T) {
	w := made(t, 0)
	for round := range 3 {
		var all []int
		for n := range api.MaxItems {
			sets(t, w, timer{n, round})
			all = append(all, n)
		}
		setRefused(t, w, mostNumber, round, api.ErrLong)
		goes(t, w, round, all...)
		has(t, w, round)
		without(t, w, all...)
		goes(t, w, round)
	}
}

// 14.3: a wheel that goes tick by tick tells each timer just at its own; one that goes by leaps at the first tick that is not ahead of it.
func TestOnceAndInTime(t *testing.T) {
	for _, leap := range []int{1, 2, 3, 7, 64, 100, 1000} {
		w := made(t, 0)
		wants := map[int][]int{}
		for n := range 300 {
			at := 1 + n*n%331
			sets(t, w, timer{n, at})
			told := (at + leap - 1) / leap * leap
			wants[told] = append(wants[told], n)
		}
		for now := 0; now <= 1000; now += leap {
			want := wants[now]
			slices.SortStableFunc(want, func(a, b int) int { return a*a%331 - b*b%331 })
			goes(t, w, now, want...)
		}
		has(t, w, 1000/leap*leap)
	}
}

// R4: what was told is the caller's: the wheel and later answers share nothing with it.
func TestMemory(t *testing.T) {
	w := made(t, 0)
	sets(t, w, timer{1, 1}, timer{2, 1}, timer{3, 1}, timer{4, 2}, timer{5, 2}, timer{6, 3})
	first, _ := w.Go(1)
	scribble(first)
	has(t, w, 1, timer{4, 2}, timer{5, 2}, timer{6, 3})
	second, _ := w.Go(2)
	if !slices.Equal(second, []int{4, 5}) {
		t.Errorf("Go(2): %v", second)
	}
	third, _ := w.Go(3)
	scribble(first)
	scribble(third)
	if !slices.Equal(second, []int{4, 5}) {
		t.Errorf("what was told at 2 became %v", second)
	}
	without(t, w, 1, 2, 3, 4, 5, 6, 99)
	has(t, w, 3)
}

// scribble writes on a list, spare room too.
func scribble(list []int) {
	list = list[:cap(list)]
	for i := range list {
		list[i] = 99
	}
}
