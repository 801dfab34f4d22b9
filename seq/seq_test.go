package seq_test

import (
	"math"
	"testing"

	"sternpost/api"
	"sternpost/seq"
)

const (
	top  = api.MaxSeq
	all  = api.MaxSeq + 1
	half = 1 << 31
	long = 1 << 30
)

// shifts are moves that lay a few numbers at the front, across the round, across its middle, and elsewhere.
var shifts = []int{0, 1, 1000, half - 3, half, top - 4, top - 1, top}

// noNumbers are no sequence numbers.
var noNumbers = []int{-1, all, -top, all + 1, math.MinInt, math.MaxInt}

func move(a, by int) int { return (a%all + by + all) % all }

// 1.1: Check.
func TestCheck(t *testing.T) {
	for _, a := range []int{0, 1, half - 1, half, top - 1, top} {
		if e := seq.Check(a); e != api.OK {
			t.Errorf("Check(%d): %d", a, e)
		}
	}
	for _, a := range noNumbers {
		if e := seq.Check(a); e != api.ErrRange {
			t.Errorf("Check(%d): %d", a, e)
		}
	}
}

// 1.1: Add goes round both ways, and takes no more than one round.
func TestAdd(t *testing.T) {
	for _, x := range []struct{ a, n, want int }{
		{5, 3, 8}, {5, -3, 2}, {5, 0, 5}, {top, 1, 0}, {0, -1, top}, {top, top, top - 1}, {7, -8, top},
		{3, all, 3}, {3, -all, 3}, {top, all, top}, {top, -all, top}, {0, -all, 0}, {half, half, 0},
		{1, all - 1, 0}, {0, -all + 1, 1},
	} {
		if n, e := seq.Add(x.a, x.n); n != x.want || e != api.OK {
			t.Errorf("Add(%d, %d): %d, %d", x.a, x.n, n, e)
		}
	}
	for _, n := range []int{all + 1, -all - 1, math.MaxInt, math.MinInt} {
		if m, e := seq.Add(3, n); m != 0 || e != api.ErrRange {
			t.Errorf("Add(3, %d): %d, %d", n, m, e)
		}
	}
}

// 1.1: Distance, Ahead and Max, with the edges of what is ahead.
func TestPairs(t *testing.T) {
	for _, x := range []struct {
		a, b, distance int
		ahead          bool
	}{
		{3, 5, 2, true}, {5, 3, all - 2, false}, {7, 7, 0, false}, {0, 0, 0, false}, {top, top, 0, false},
		{top, 0, 1, true}, {0, top, top, false}, {top, 3, 4, true},
		{0, half - 1, half - 1, true}, {0, half, half, false}, {0, half + 1, half + 1, false},
		{half, 0, half, false}, {half + 1, 0, half - 1, true}, {half - 1, 0, half + 1, false},
	} {
		max := x.a
		if x.ahead {
			max = x.b
		}
		if d, e := seq.Distance(x.a, x.b); d != x.distance || e != api.OK {
			t.Errorf("Distance(%d, %d): %d, %d", x.a, x.b, d, e)
		}
		if p, e := seq.Ahead(x.a, x.b); p != x.ahead || e != api.OK {
			t.Errorf("Ahead(%d, %d): %v, %d", x.a, x.b, p, e)
		}
		if m, e := seq.Max(x.a, x.b); m != max || e != api.OK {
			t.Errorf("Max(%d, %d): %d, %d", x.a, x.b, m, e)
		}
	}
}

// 1.1: In, with windows of no number, of all, and across the round.
func TestIn(t *testing.T) {
	for _, x := range []struct {
		n, from, long int
		want          bool
	}{
		{3, 3, 3, true}, {5, 3, 3, true}, {6, 3, 3, false}, {2, 3, 3, false}, {3, 3, 0, false}, {3, 3, 1, true},
		{top, top, 3, true}, {1, top, 3, true}, {2, top, 3, false},
		{2, 3, all, true}, {2, 3, all - 1, false}, {1, 3, all - 1, true}, {half, 0, half, false}, {half - 1, 0, half, true},
	} {
		if p, e := seq.In(x.n, x.from, x.long); p != x.want || e != api.OK {
			t.Errorf("In(%d, %d, %d): %v, %d", x.n, x.from, x.long, p, e)
		}
	}
	for _, n := range []int{-1, all + 1, math.MaxInt, math.MinInt} {
		if p, e := seq.In(3, 3, n); p || e != api.ErrRange {
			t.Errorf("In(3, 3, %d): %v, %d", n, p, e)
		}
	}
}

// 1.1, 1.2: whatever argument must be a sequence number and is none, the answer is ErrRange beside zero values.
func TestNoNumbers(t *testing.T) {
	for _, a := range noNumbers {
		check := func(name string, zero bool, e api.Code) {
			t.Helper()
			if !zero || e != api.ErrRange {
				t.Errorf("%s with %d: zero %v, %d", name, a, zero, e)
			}
		}
		n, e := seq.Add(a, 0)
		check("Add", n == 0, e)
		for _, x := range [][2]int{{a, 3}, {3, a}, {a, a}} {
			n, e = seq.Distance(x[0], x[1])
			check("Distance", n == 0, e)
			p, e := seq.Ahead(x[0], x[1])
			check("Ahead", !p, e)
			p, e = seq.In(x[0], x[1], all)
			check("In", !p, e)
			n, e = seq.Max(x[0], x[1])
			check("Max", n == 0, e)
			skip, keep, e := seq.Cut(x[0], 5, x[1], 5)
			check("Cut", skip == 0 && keep == 0, e)
		}
	}
}

// 1.2: Cut at the edges of lengths, of windows, and of what is ahead.
func TestCut(t *testing.T) {
	for _, x := range []struct{ from, long, left, size, skip, keep int }{
		{8, 5, 10, 2, 2, 2}, {8, 5, 10, 3, 2, 3}, {8, 5, 10, 9, 2, 3}, {8, 5, 10, 0, 2, 0},
		{8, 5, 13, 9, 5, 0}, {8, 5, 12, 9, 4, 1}, {8, 5, 20, 9, 5, 0}, {8, 0, 10, 9, 0, 0}, {8, 0, 8, 9, 0, 0},
		{10, 5, 10, 5, 0, 5}, {10, 5, 10, 4, 0, 4}, {10, 5, 8, 4, 0, 2}, {10, 5, 8, 2, 0, 0}, {10, 5, 8, 3, 0, 1},
		{10, 5, 8, 7, 0, 5}, {10, 5, 8, 0, 0, 0},
		{top, 3, 1, 9, 2, 1}, {top, 3, top, 9, 0, 3}, {1, 3, top, 4, 0, 2}, {0, 1, top, 1, 0, 0}, {top, 1, 0, 1, 1, 0},
		{0, long, 0, long, 0, long}, {0, long, long - 1, long, long - 1, 1}, {0, long, long, long, long, 0},
		{long, long, 0, long, 0, 0}, {long - 1, long, 0, long, 0, 1},
		{0, long, half - 1, long, long, 0}, {0, 5, half - 1, 9, 5, 0}, {0, 5, half + long, long, 0, 0}, {half, 5, 0, long, 0, 0},
	} {
		for _, by := range shifts {
			skip, keep, e := seq.Cut(move(x.from, by), x.long, move(x.left, by), x.size)
			if skip != x.skip || keep != x.keep || e != api.OK {
				t.Errorf("Cut(%d, %d, %d, %d) moved by %d: %d, %d, %d", x.from, x.long, x.left, x.size, by, skip, keep, e)
			}
		}
	}
	for _, n := range []int{-1, long + 1, all, math.MaxInt, math.MinInt} {
		for _, x := range [][2]int{{n, 1}, {1, n}, {n, n}} {
			if skip, keep, e := seq.Cut(1, x[0], 1, x[1]); skip != 0 || keep != 0 || e != api.ErrRange {
				t.Errorf("Cut(1, %d, 1, %d): %d, %d, %d", x[0], x[1], skip, keep, e)
			}
		}
	}
}

// countCut is Cut byte by byte, by what is ahead and what is in a window.
func countCut(from, long, left, size int) (skip, keep int) {
	for i := range long {
		at := move(from, i)
		if d := move(left, -at); d > 0 && d < half {
			skip++
		} else if move(at, -left) < size {
			keep++
		}
	}
	return skip, keep
}

// 1.2, 1.3: Cut is what one counts byte by byte, wherever the numbers lie.
func TestCutByBytes(t *testing.T) {
	for _, by := range shifts {
		for from := range 9 {
			for left := range 9 {
				for n := range 9 {
					for size := range 9 {
						a, b := move(from, by), move(left, by)
						wantSkip, wantKeep := countCut(a, n, b, size)
						skip, keep, e := seq.Cut(a, n, b, size)
						if skip != wantSkip || keep != wantKeep || e != api.OK {
							t.Fatalf("Cut(%d, %d, %d, %d): %d, %d, %d; counted %d, %d", a, n, b, size, skip, keep, e, wantSkip, wantKeep)
						}
					}
				}
			}
		}
	}
}

// 1.3: what holds of two numbers holds of both moved alike.
func TestMovedAlike(t *testing.T) {
	places := []int{0, 1, 2, half - 1, half, half + 1, top - 1, top}
	for _, a := range places {
		for _, b := range places {
			distance, _ := seq.Distance(a, b)
			ahead, _ := seq.Ahead(a, b)
			most, _ := seq.Max(a, b)
			for _, by := range shifts {
				c, d := move(a, by), move(b, by)
				if n, e := seq.Distance(c, d); n != distance || e != api.OK {
					t.Errorf("Distance(%d, %d) moved by %d: %d", a, b, by, n)
				}
				if p, e := seq.Ahead(c, d); p != ahead || e != api.OK {
					t.Errorf("Ahead(%d, %d) moved by %d: %v", a, b, by, p)
				}
				if n, e := seq.Max(c, d); n != move(most, by) || e != api.OK {
					t.Errorf("Max(%d, %d) moved by %d: %d", a, b, by, n)
				}
				for _, long := range []int{0, 1, 2, half, all - 1, all} {
					want, _ := seq.In(a, b, long)
					if p, e := seq.In(c, d, long); p != want || e != api.OK {
						t.Errorf("In(%d, %d, %d) moved by %d: %v", a, b, long, by, p)
					}
				}
				want, _ := seq.Add(a, by)
				if n, e := seq.Add(c, by); n != move(want, by) || e != api.OK {
					t.Errorf("Add(%d, %d) moved: %d", a, by, n)
				}
			}
		}
	}
}
