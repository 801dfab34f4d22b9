package rto_test

import (
	"math"
	"testing"

	"sternpost/api"
	"sternpost/rto"
)

const most = 1 << 20 // of a wait's ticks, and of a sample's

// farNumbers are no ticks of a wait or of a sample.
var farNumbers = []int{-1, -2, most + 1, 1 << 32, 1<<32 + 1, math.MinInt, math.MinInt + 1, math.MaxInt, math.MaxInt - 1}

// made is an estimator that may not be refused.
func made(t *testing.T, first, least, greatest int) *rto.Rto {
	t.Helper()
	r, e := rto.New(first, least, greatest)
	if e != api.OK || r == nil {
		t.Fatalf("New(%d, %d, %d): %d", first, least, greatest, e)
	}
	return r
}

func newRefused(t *testing.T, first, least, greatest int) {
	t.Helper()
	if r, e := rto.New(first, least, greatest); r != nil || e != api.ErrRange {
		t.Errorf("New(%d, %d, %d): %v, %d, want error %d", first, least, greatest, r, e, api.ErrRange)
	}
}

// is looks at all that an estimator tells, twice, as asking may change nothing.
func is(t *testing.T, r *rto.Rto, mean, deviation, backs, wait int) {
	t.Helper()
	for range 2 {
		if m, d, b := r.State(); m != mean || d != deviation || b != backs {
			t.Errorf("State: %d, %d, %d, want %d, %d, %d", m, d, b, mean, deviation, backs)
		}
		if w := r.Wait(); w != wait {
			t.Errorf("Wait: %d, want %d", w, wait)
		}
	}
}

// takes looks whether none of these samples is refused.
func takes(t *testing.T, r *rto.Rto, samples ...int) {
	t.Helper()
	for _, n := range samples {
		if e := r.Sample(n); e != api.OK {
			t.Errorf("Sample(%d): %d", n, e)
		}
	}
}

// backs looks what the wait is, each time it is doubled.
func backs(t *testing.T, r *rto.Rto, want ...int) {
	t.Helper()
	for _, n := range want {
		if w := r.Back(); w != n {
			t.Errorf("Back: %d, want %d", w, n)
		}
	}
}

// 13.1
func TestNew(t *testing.T) {
	for _, x := range [][3]int{
		{1, 1, 1}, {1, 1, 2}, {2, 1, 2}, {2, 2, 2}, {5, 5, 9}, {7, 5, 9}, {9, 5, 9},
		{1, 1, most}, {most, 1, most}, {most - 1, most - 1, most}, {most, most, most},
	} {
		is(t, made(t, x[0], x[1], x[2]), 0, 0, 0, x[0])
	}
}

// 13.1
func TestNewRefused(t *testing.T) {
	for _, x := range [][3]int{
		{0, 0, 0}, {0, 0, 9}, {1, 0, 9}, {9, 0, 9}, {0, 1, 9}, {1, 2, 9}, {10, 2, 9}, {4, 5, 9},
		{9, 9, 8}, {8, 9, 8}, {2, 2, 1}, {1, 1, 0}, {-1, -1, -1}, {1, -1, 9}, {-1, 1, 9}, {5, 9, 1},
		{most, most, most + 1}, {1, 1, most + 1}, {most + 1, 1, most}, {most, most + 1, most},
		{most + 1, most + 1, most + 1}, {1, most, most},
	} {
		newRefused(t, x[0], x[1], x[2])
	}
	for _, n := range farNumbers {
		newRefused(t, n, 1, 9)
		newRefused(t, 5, n, 9)
		newRefused(t, 5, 1, n)
		newRefused(t, n, n, n)
		newRefused(t, n, n, most)
		newRefused(t, n, 1, n)
		newRefused(t, 1, n, n)
	}
}

// 13.1: two estimators have nothing to do with each other.
func TestTwo(t *testing.T) {
	a, b := made(t, 100, 10, 1000), made(t, 100, 10, 1000)
	takes(t, a, 40)
	backs(t, a, 240)
	is(t, b, 0, 0, 0, 100)
	backs(t, b, 200, 400)
	is(t, a, 320, 80, 1, 240)
}

// 13.1: a fork is as the other one is, whatever that has gone through, and neither sees what becomes of the other one. The twin is no fork, so that nothing is shared with it.
func TestFork(t *testing.T) {
	for name, before := range map[string]func(r *rto.Rto){
		"new":     func(r *rto.Rto) {},
		"back":    func(r *rto.Rto) { backs(t, r, 200, 400) },
		"zero":    func(r *rto.Rto) { takes(t, r, 0) },
		"samples": func(r *rto.Rto) { takes(t, r, 40, 40, 10) },
		"both":    func(r *rto.Rto) { takes(t, r, 40); backs(t, r, 240, 480, 960, 1000, 1000) },
		"counted": func(r *rto.Rto) {
			for range 40 {
				r.Back()
			}
		},
	} {
		for _, change := range []func(r *rto.Rto){
			func(r *rto.Rto) { r.Back() },
			func(r *rto.Rto) { r.Sample(0) },
			func(r *rto.Rto) { r.Sample(500) },
		} {
			r, twin := made(t, 100, 10, 1000), made(t, 100, 10, 1000)
			before(r)
			before(twin)
			fork := r.Fork()
			alike(t, fork, twin)
			change(fork)
			alike(t, r, twin)
			change(twin)
			alike(t, fork, twin)
			r.Back()
			alike(t, fork, twin)
			if t.Failed() {
				t.Fatal(name)
			}
		}
	}
}

// 13.1: a fork of a fork, and the least and the greatest one of all of them.
func TestForkFar(t *testing.T) {
	r := made(t, 30, 20, 50).Fork().Fork()
	backs(t, r, 50, 50)
	takes(t, r, 1)
	is(t, r, 8, 2, 0, 20)
}

// alike looks whether two estimators tell the same.
func alike(t *testing.T, r, want *rto.Rto) {
	t.Helper()
	mean, deviation, backs := want.State()
	is(t, r, mean, deviation, backs, want.Wait())
}

// Chapter 13, example 1; the document's example 6.
func TestExamples(t *testing.T) {
	r := made(t, 100, 10, 1000)
	takes(t, r, 40)
	is(t, r, 320, 80, 0, 120)
	takes(t, r, 40)
	is(t, r, 320, 60, 0, 100)
}

// 13.2: the first one.
func TestFirstSample(t *testing.T) {
	for _, x := range []struct{ ticks, mean, deviation, wait int }{
		{0, 0, 0, 1}, {1, 8, 2, 3}, {2, 16, 4, 6}, {3, 24, 6, 9}, {40, 320, 80, 120},
		{349525, 2796200, 699050, 1048575}, {349526, 2796208, 699052, most},
		{most - 1, 8388600, 2097150, most}, {most, 8388608, 2097152, most},
	} {
		r := made(t, 100, 1, most)
		takes(t, r, x.ticks)
		is(t, r, x.mean, x.deviation, 0, x.wait)
	}
}

// 13.2: each other one: what is left of an eighth and of a fourth is cut off, and a sample may be below the mean.
func TestOtherSamples(t *testing.T) {
	r := made(t, 100, 1, most)
	for _, x := range []struct{ ticks, mean, deviation, wait int }{
		{40, 320, 80, 120}, {40, 320, 60, 100}, {10, 290, 75, 111}, {60, 314, 81, 120}, {0, 275, 100, 134},
		{0, 241, 109, 139}, {31, 242, 83, 113}, {30, 242, 63, 93}, {29, 241, 49, 79}, {1000, 1211, 1007, 1158},
		{most, 1049636, 1049181, most}, {0, 918432, 918090, 1032894}, {0, 803628, 803372, 903825}, {1, 703176, 702981, 790878},
	} {
		takes(t, r, x.ticks)
		is(t, r, x.mean, x.deviation, 0, x.wait)
	}
}

// 13.2: one of 0 is the first one, too: what follows it is none.
func TestZeroIsASample(t *testing.T) {
	r := made(t, 100, 1, most)
	takes(t, r, 0)
	is(t, r, 0, 0, 0, 1)
	takes(t, r, 0)
	is(t, r, 0, 0, 0, 1)
	takes(t, r, 40)
	is(t, r, 40, 40, 0, 45)
	takes(t, r, 40)
	is(t, r, 75, 65, 0, 74)
}

// 13.2: a wait without a deviation is one tick longer than the mean, and nobody waits for less than that.
func TestLeastDeviation(t *testing.T) {
	r := made(t, 100, 1, most)
	takes(t, r, 0, 1)
	is(t, r, 1, 1, 0, 1)
	takes(t, r, 0, 0, 0)
	is(t, r, 1, 1, 0, 1)
	takes(t, r, 1)
	is(t, r, 2, 2, 0, 2)
}

// 13.2: a first number that was not sampled leaves nothing behind.
func TestFirstWaitIsNoSample(t *testing.T) {
	for _, first := range []int{10, 100, 1000} {
		r := made(t, first, 10, 1000)
		takes(t, r, 40, 10)
		is(t, r, 290, 90, 0, 126)
	}
}

// 13.2: the wait is held between both bounds, the mean and the deviation are not.
func TestBounds(t *testing.T) {
	for _, x := range []struct{ least, greatest, wait int }{
		{1, 1000, 120}, {119, 121, 120}, {120, 121, 120}, {119, 120, 120}, {120, 120, 120},
		{121, 1000, 121}, {1000, 1000, 1000}, {1, 119, 119}, {1, 1, 1}, {119, 119, 119}, {1, 40, 40},
	} {
		r := made(t, x.least, x.least, x.greatest)
		takes(t, r, 40)
		is(t, r, 320, 80, 0, x.wait)
		takes(t, r, 10)
		is(t, r, 290, 90, 0, min(max(126, x.least), x.greatest))
	}
}

// 13.2: a sample that is refused changes nothing, whatever came ahead of it.
func TestSampleRefused(t *testing.T) {
	r := made(t, 100, 10, 1000)
	refused := func() {
		t.Helper()
		mean, deviation, backs := r.State()
		wait := r.Wait()
		for _, n := range farNumbers {
			if e := r.Sample(n); e != api.ErrRange {
				t.Errorf("Sample(%d): %d, want error %d", n, e, api.ErrRange)
			}
			is(t, r, mean, deviation, backs, wait)
		}
	}
	refused()
	backs(t, r, 200)
	refused()
	takes(t, r, 40)
	is(t, r, 320, 80, 0, 120)
	refused()
	backs(t, r, 240)
	refused()
	takes(t, r, 10)
	is(t, r, 290, 90, 0, 126)
}

// 13.3: twice as long, up to the greatest; it is counted there, too.
func TestBack(t *testing.T) {
	r := made(t, 100, 10, 1000)
	backs(t, r, 200, 400, 800, 1000, 1000)
	is(t, r, 0, 0, 5, 1000)

	r = made(t, 1, 1, most)
	for i := range 20 {
		backs(t, r, 2<<i)
		is(t, r, 0, 0, i+1, 2<<i)
	}
	backs(t, r, most)
	is(t, r, 0, 0, 21, most)

	r = made(t, 5, 5, 10)
	backs(t, r, 10, 10)
	r = made(t, 5, 5, 9)
	backs(t, r, 9, 9)
	r = made(t, 5, 5, 11)
	backs(t, r, 10, 11)
	r = made(t, 1, 1, 1)
	backs(t, r, 1, 1, 1)
	is(t, r, 0, 0, 3, 1)
}

// 13.3: at most 32 times are counted.
func TestBacksCounted(t *testing.T) {
	r := made(t, 3, 1, 1000)
	for i := range 100 {
		r.Back()
		is(t, r, 0, 0, min(i+1, 32), min(3<<min(i+1, 20), 1000))
	}
	takes(t, r, 40)
	is(t, r, 320, 80, 0, 120)
	backs(t, r, 240)
	is(t, r, 320, 80, 1, 240)
}

// 13.2, 13.3: a sample takes back what was doubled, but a wait that was doubled leaves the mean and the deviation as they are.
func TestBackAndSample(t *testing.T) {
	r := made(t, 100, 10, 1000)
	backs(t, r, 200, 400)
	takes(t, r, 40)
	is(t, r, 320, 80, 0, 120)
	backs(t, r, 240, 480, 960, 1000)
	is(t, r, 320, 80, 4, 1000)
	takes(t, r, 40)
	is(t, r, 320, 60, 0, 100)
	backs(t, r, 200)
	is(t, r, 320, 60, 1, 200)

	r = made(t, 100, 70, 150)
	takes(t, r, 0)
	is(t, r, 0, 0, 0, 70)
	backs(t, r, 140, 150)
	is(t, r, 0, 0, 2, 150)
	takes(t, r, 0)
	is(t, r, 0, 0, 0, 70)
}
