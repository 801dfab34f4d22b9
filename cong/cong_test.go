package cong_test

import (
	"math"
	"testing"

	"sternpost/api"
	"sternpost/cong"
)

const (
	most = 1 << 20 // of a window, of what is counted, and of the bytes that a call tells
	top  = api.MaxSeq
	half = 1 << 31
)

// negatives count as 0 bytes.
var negatives = []int{-1, -2, -1000, -most, -1 << 32, math.MinInt + 1, math.MinInt}

// hugeNumbers count as most bytes.
var hugeNumbers = []int{most, most + 1, 1 << 31, 1 << 32, 1<<32 + 1, math.MaxInt - 1, math.MaxInt}

// shown is all that a valve tells.
type shown struct {
	window, threshold, same, gathered int
	mending                           bool
	up                                int
}

func show(v *cong.Valve) shown {
	threshold, same, gathered, mending, up := v.State()
	return shown{v.Window(), threshold, same, gathered, mending, up}
}

// made is a valve that may not be refused.
func made(t *testing.T, mss int) *cong.Valve {
	t.Helper()
	v, e := cong.New(mss)
	if e != api.OK || v == nil {
		t.Fatalf("New(%d): %d", mss, e)
	}
	return v
}

// is looks at all that a valve tells, twice, as asking may change nothing.
func is(t *testing.T, v *cong.Valve, want shown) {
	t.Helper()
	for range 2 {
		if got := show(v); got != want {
			t.Errorf("%+v, want %+v", got, want)
		}
	}
}

func acked(t *testing.T, v *cong.Valve, n, up int, want bool) {
	t.Helper()
	if again := v.Acked(n, up); again != want {
		t.Errorf("Acked(%d, %d): %v", n, up, again)
	}
}

func same(t *testing.T, v *cong.Valve, flight, next int, want ...bool) {
	t.Helper()
	for i, x := range want {
		if again := v.Same(flight, next); again != x {
			t.Errorf("Same(%d, %d), call %d: %v", flight, next, i, again)
		}
	}
}

// mends is a valve that mends up to a number, by what was on its way.
func mends(t *testing.T, mss, flight, up int) *cong.Valve {
	t.Helper()
	v := made(t, mss)
	same(t, v, flight, up, false, false, true)
	return v
}

// level is a valve whose window is its threshold, so that it gathers: half of what was on its way, as long as that is twice the MSS at least.
func level(t *testing.T, mss, flight int) *cong.Valve {
	t.Helper()
	v := mends(t, mss, flight, 7)
	acked(t, v, 0, 7, false)
	return v
}

// 17.1
func TestNew(t *testing.T) {
	for mss := 1; mss <= 1460; mss++ {
		want := 4380
		if mss < 1095 {
			want = 4 * mss
		}
		is(t, made(t, mss), shown{window: want, threshold: most})
	}
}

// 17.1
func TestNewRefused(t *testing.T) {
	for _, mss := range []int{0, -1, -536, 1461, 1 << 16, most, 1<<32 + 100, math.MinInt, math.MaxInt} {
		if v, e := cong.New(mss); v != nil || e != api.ErrRange {
			t.Errorf("New(%d): %v, %d", mss, v, e)
		}
	}
}

// The chapter's example.
func TestExample(t *testing.T) {
	v := made(t, 100)
	is(t, v, shown{window: 400, threshold: most})
	acked(t, v, 100, 1, false)
	is(t, v, shown{window: 500, threshold: most})
	same(t, v, 500, 9, false, false, true)
	is(t, v, shown{window: 250 + 300, threshold: 250, same: 3, mending: true, up: 9})
}

// 17.2: below the threshold the window is n more, at most one MSS.
func TestBelowThreshold(t *testing.T) {
	for _, x := range [][2]int{{0, 0}, {1, 1}, {30, 30}, {99, 99}, {100, 100}, {101, 100}, {300, 100}, {most, 100}} {
		v := made(t, 100)
		acked(t, v, x[0], 5, false)
		is(t, v, shown{window: 400 + x[1], threshold: most})
		acked(t, v, x[0], 5, false)
		is(t, v, shown{window: 400 + 2*x[1], threshold: most})
	}
}

// 17.2: the threshold itself is not below the threshold, and one may step over it.
func TestAtThreshold(t *testing.T) {
	v := made(t, 100)
	v.Late(500)
	is(t, v, shown{window: 100, threshold: 250})
	acked(t, v, 100, 5, false)
	acked(t, v, 49, 5, false)
	is(t, v, shown{window: 249, threshold: 250})
	w := v.Fork()
	acked(t, v, 1, 5, false)
	is(t, v, shown{window: 250, threshold: 250})
	acked(t, v, 1, 5, false)
	is(t, v, shown{window: 250, threshold: 250, gathered: 1})
	acked(t, w, 100, 5, false)
	is(t, w, shown{window: 349, threshold: 250})
	acked(t, w, 100, 5, false)
	is(t, w, shown{window: 349, threshold: 250, gathered: 100})
}

// 17.2: from the threshold on a window is gathered, then it is one MSS more.
func TestGathered(t *testing.T) {
	v := level(t, 100, 600)
	for _, x := range []struct{ n, window, gathered int }{
		{0, 300, 0}, {200, 300, 200}, {99, 300, 299}, {0, 300, 299}, {1, 400, 0},
		{399, 400, 399}, {2, 500, 1}, {499, 600, 0}, {601, 700, 1}, {1000, 800, 301}, {498, 800, 799}, {5, 900, 4},
	} {
		acked(t, v, x.n, 5, false)
		is(t, v, shown{window: x.window, threshold: 300, gathered: x.gathered})
	}
}

// 17.2: one call makes the window one MSS more, however much it tells; what is left is gathered still.
func TestGatheredBeyond(t *testing.T) {
	v := level(t, 100, 400)
	is(t, v, shown{window: 200, threshold: 200})
	acked(t, v, 1000, 5, false)
	is(t, v, shown{window: 300, threshold: 200, gathered: 800})
	acked(t, v, 0, 5, false)
	is(t, v, shown{window: 400, threshold: 200, gathered: 500})
	acked(t, v, 0, 5, false)
	is(t, v, shown{window: 500, threshold: 200, gathered: 100})
	acked(t, v, 0, 5, false)
	is(t, v, shown{window: 500, threshold: 200, gathered: 100})
}

// 17.2: what was gathered outlives a mending, as only a wait that is over lets go of it.
func TestGatheredMending(t *testing.T) {
	v := level(t, 100, 1000)
	acked(t, v, 450, 5, false)
	is(t, v, shown{window: 500, threshold: 500, gathered: 450})
	same(t, v, 700, 20, false, false, true, false)
	is(t, v, shown{window: 750, threshold: 350, same: 4, gathered: 450, mending: true, up: 20})
	acked(t, v, 100, 10, true)
	is(t, v, shown{window: 750, threshold: 350, same: 4, gathered: 450, mending: true, up: 20})
	acked(t, v, 600, 20, false)
	is(t, v, shown{window: 350, threshold: 350, gathered: 450})
	acked(t, v, 0, 20, false)
	is(t, v, shown{window: 450, threshold: 350, gathered: 100})
}

// 17.2: what is acknowledged counts anew the acknowledgements that tell nothing new, even where it is no byte.
func TestCountedAnew(t *testing.T) {
	for _, n := range []int{0, 1, 100, -1} {
		v := made(t, 100)
		same(t, v, 500, 9, false, false)
		is(t, v, shown{window: 400, threshold: most, same: 2})
		acked(t, v, n, 5, false)
		is(t, v, shown{window: 400 + max(n, 0), threshold: most})
		same(t, v, 500, 9, false, false)
		is(t, v, shown{window: 400 + max(n, 0), threshold: most, same: 2})
		same(t, v, 500, 9, true)
	}
}

// 17.2: the mending ends with the number to which it mends, or one that is ahead of that, wherever numbers go round.
func TestMendingEnds(t *testing.T) {
	for _, up := range []int{0, 1, 1000, half - 1, half, top - 1, top} {
		for _, on := range []int{0, 1, 2, 100000, half - 2, half - 1} {
			v := mends(t, 100, 600, up)
			is(t, v, shown{window: 600, threshold: 300, same: 3, mending: true, up: up})
			acked(t, v, 250, (up+on)%(1<<32), false)
			is(t, v, shown{window: 300, threshold: 300})
		}
		for _, on := range []int{half, half + 1, top - 100000, top - 1, top} {
			v := mends(t, 100, 600, up)
			acked(t, v, 250, (up+on)%(1<<32), true)
			is(t, v, shown{window: 450, threshold: 300, same: 3, mending: true, up: up})
		}
	}
}

// 17.2: what is acknowledged in the midst of a mending.
func TestMendingOn(t *testing.T) {
	for _, x := range [][2]int{
		{0, 600}, {1, 599}, {99, 501}, {100, 600}, {101, 599}, {250, 450},
		{499, 201}, {599, 101}, {600, 100}, {601, 100}, {700, 100}, {701, 100}, {most, 100},
	} {
		v := mends(t, 100, 600, 1000)
		acked(t, v, x[0], 500, true)
		is(t, v, shown{window: x[1], threshold: 300, same: 3, mending: true, up: 1000})
	}
	v := mends(t, 100, 600, 1000)
	for _, want := range []int{540, 480, 420, 360, 300, 240, 180, 120, 100, 100} {
		acked(t, v, 60, 999, true)
		is(t, v, shown{window: want, threshold: 300, same: 3, mending: true, up: 1000})
	}
	same(t, v, 600, 1000, false)
	is(t, v, shown{window: 200, threshold: 300, same: 4, mending: true, up: 1000})
}

// 17.2: bytes below 0 count as 0, and above most as that.
func TestAckedFar(t *testing.T) {
	for _, n := range negatives {
		v := made(t, 100)
		acked(t, v, n, 5, false)
		is(t, v, shown{window: 400, threshold: most})
		v = level(t, 100, 600)
		acked(t, v, n, 5, false)
		is(t, v, shown{window: 300, threshold: 300})
		v = mends(t, 100, 600, 1000)
		acked(t, v, n, 5, true)
		is(t, v, shown{window: 600, threshold: 300, same: 3, mending: true, up: 1000})
		acked(t, v, n, 1000, false)
		is(t, v, shown{window: 300, threshold: 300})
	}
	for _, n := range hugeNumbers {
		v := made(t, 100)
		acked(t, v, n, 5, false)
		is(t, v, shown{window: 500, threshold: most})
		v = level(t, 100, 600)
		acked(t, v, n, 5, false)
		is(t, v, shown{window: 400, threshold: 300, gathered: most - 300})
		v = mends(t, 100, 600, 1000)
		acked(t, v, n, 5, true)
		is(t, v, shown{window: 100, threshold: 300, same: 3, mending: true, up: 1000})
		acked(t, v, n, 1000, false)
		is(t, v, shown{window: 300, threshold: 300})
	}
}

// farNumbers are no sequence numbers, each with its lower 32 bits.
var farNumbers = [][2]int{
	{-1, top}, {-2, top - 1}, {-1 << 32, 0}, {-1<<32 - 1, top}, {-1<<32 + 5, 5}, {-half, half},
	{1 << 32, 0}, {1<<32 + 1, 1}, {1<<33 - 1, top}, {1<<40 + 77, 77},
	{math.MinInt, 0}, {math.MinInt + 9, 9}, {math.MaxInt, top}, {math.MaxInt - 1, top - 1},
}

// 17.2, 17.3: of a number that is none, the lower 32 bits count.
func TestLowerBits(t *testing.T) {
	for _, x := range farNumbers {
		v := mends(t, 100, 600, x[0])
		is(t, v, shown{window: 600, threshold: 300, same: 3, mending: true, up: x[1]})
		acked(t, v, 0, (x[1]+top)%(1<<32), true)
		acked(t, v, 0, x[1], false)
		v = mends(t, 100, 600, x[1])
		acked(t, v, 0, x[0], false)
		v = mends(t, 100, 600, (x[1]+1)%(1<<32))
		acked(t, v, 0, x[0], true)
		v = mends(t, 100, 600, (x[1]+top)%(1<<32))
		acked(t, v, 0, x[0], false)
	}
}

// 17.3: only the third one in a row is a loss; what is on its way ahead of it means nothing.
func TestThird(t *testing.T) {
	v := made(t, 100)
	same(t, v, most, 4, false)
	is(t, v, shown{window: 400, threshold: most, same: 1})
	same(t, v, 0, 5, false)
	is(t, v, shown{window: 400, threshold: most, same: 2})
	same(t, v, 801, 6, true)
	is(t, v, shown{window: 700, threshold: 400, same: 3, mending: true, up: 6})
	same(t, v, 5000, 77, false)
	is(t, v, shown{window: 800, threshold: 400, same: 4, mending: true, up: 6})
	same(t, v, 0, 78, false, false)
	is(t, v, shown{window: 1000, threshold: 400, same: 6, mending: true, up: 6})
	acked(t, v, 0, 6, false)
	same(t, v, 1000, 90, false, false, true)
	is(t, v, shown{window: 800, threshold: 500, same: 3, mending: true, up: 90})
}

// halves are what is on its way, and the threshold by it with an MSS of 100.
var halves = [][2]int{
	{0, 200}, {1, 200}, {399, 200}, {400, 200}, {401, 200}, {402, 201}, {403, 201}, {404, 202},
	{1000, 500}, {most - 2, most/2 - 1}, {most - 1, most/2 - 1},
}

// 17.3, 17.4: to halve, by what counts as bytes.
func TestHalved(t *testing.T) {
	list := halves
	for _, n := range negatives {
		list = append(list, [2]int{n, 200})
	}
	for _, n := range hugeNumbers {
		list = append(list, [2]int{n, most / 2})
	}
	for _, x := range list {
		is(t, mends(t, 100, x[0], 9), shown{window: x[1] + 300, threshold: x[1], same: 3, mending: true, up: 9})
		v := made(t, 100)
		v.Late(x[0])
		is(t, v, shown{window: 100, threshold: x[1]})
	}
	for _, mss := range []int{1, 2, 536, 1459, 1460} {
		is(t, mends(t, mss, 0, 9), shown{window: 5 * mss, threshold: 2 * mss, same: 3, mending: true, up: 9})
		v := made(t, mss)
		v.Late(0)
		is(t, v, shown{window: mss, threshold: 2 * mss})
	}
}

// 17.3: at most 2^20 are counted, and the window grows up to 2^20 by them.
func TestSameMost(t *testing.T) {
	v := mends(t, 1, 0, 9)
	for i := 4; i <= most; i++ {
		if v.Same(0, 9) {
			t.Fatalf("Same, call %d: true", i)
		}
	}
	is(t, v, shown{window: most, threshold: 2, same: most, mending: true, up: 9})
	same(t, v, 0, 9, false, false)
	is(t, v, shown{window: most, threshold: 2, same: most, mending: true, up: 9})
	acked(t, v, 1, 8, true)
	is(t, v, shown{window: most, threshold: 2, same: most, mending: true, up: 9})
	acked(t, v, most-1, 8, true)
	is(t, v, shown{window: 2, threshold: 2, same: most, mending: true, up: 9})
}

// 17.4: whatever it did, a wait that is over makes the window one MSS, and lets go of all else.
func TestLate(t *testing.T) {
	counting := level(t, 100, 600)
	acked(t, counting, 250, 5, false)
	same(t, counting, 600, 9, false, false)
	is(t, counting, shown{window: 300, threshold: 300, same: 2, gathered: 250})
	both := counting.Fork()
	same(t, both, 600, 9, true, false)
	is(t, both, shown{window: 700, threshold: 300, same: 4, gathered: 250, mending: true, up: 9})
	for _, v := range []*cong.Valve{made(t, 100), counting, both, mends(t, 100, 700, 0)} {
		v.Late(900)
		is(t, v, shown{window: 100, threshold: 450})
		v.Late(100)
		is(t, v, shown{window: 100, threshold: 200})
		same(t, v, 600, 12, false, false)
		is(t, v, shown{window: 100, threshold: 200, same: 2})
		acked(t, v, 70, 3, false)
		is(t, v, shown{window: 170, threshold: 200})
	}
}

// 17.1: a fork is as it was, and neither tells anything of the other one.
func TestFork(t *testing.T) {
	counting := level(t, 100, 600)
	acked(t, counting, 250, 5, false)
	same(t, counting, 600, 9, false, false)
	for _, v := range []*cong.Valve{made(t, 100), counting, mends(t, 100, 600, 1000)} {
		was := show(v)
		fork := v.Fork()
		is(t, fork, was)
		use(v)
		is(t, fork, was)
		now := show(v)
		use(fork)
		is(t, v, now)
		is(t, fork, now)
		fork.Late(5000)
		is(t, v, now)
		fork.Fork().Late(0)
		is(t, fork, shown{window: 100, threshold: 2500})
	}
}

// use calls whatever changes a valve.
func use(v *cong.Valve) {
	v.Acked(100, 999)
	for range 3 {
		v.Same(800, 2000)
	}
	v.Acked(40, 1000)
	v.Acked(900, 3000)
	v.Acked(150, 3000)
}

// 17.1, 17.5: a fork's window is bounded by its own MSS.
func TestForkBound(t *testing.T) {
	for _, mss := range []int{1, 100, 1460} {
		v := mends(t, mss, 0, 9).Fork()
		acked(t, v, most, 8, true)
		is(t, v, shown{window: mss, threshold: 2 * mss, same: 3, mending: true, up: 9})
	}
}

// 17.5: the window comes to 2^20, below the threshold and by what is gathered, and stays there.
func TestWindowMost(t *testing.T) {
	for _, mss := range []int{1, 100, 1024, 1460} {
		v := made(t, mss)
		for window := v.Window(); window < most; {
			window = min(window+mss, most)
			acked(t, v, mss, 5, false)
			is(t, v, shown{window: window, threshold: most})
		}
		acked(t, v, most-1, 5, false)
		is(t, v, shown{window: most, threshold: most, gathered: most - 1})
		acked(t, v, 3, 5, false)
		is(t, v, shown{window: most, threshold: most, gathered: 2})
		v.Late(most)
		is(t, v, shown{window: mss, threshold: most / 2})
	}
	v := level(t, 1460, most)
	for window := most / 2; window < most; {
		acked(t, v, window, 5, false)
		window = min(window+1460, most)
		is(t, v, shown{window: window, threshold: most / 2})
	}
	acked(t, v, most, 5, false)
	is(t, v, shown{window: most, threshold: most / 2})
}
