package recvq_test

import (
	"math"
	"slices"
	"strings"
	"testing"

	"sternpost/api"
	"sternpost/recvq"
)

const top = api.MaxSeq

// noNumbers are numbers that are no sequence numbers; some of them are such ones, once they are cut to 32 bits.
var noNumbers = []int{-1, -2, 1 << 32, 1<<32 + 1, 1<<32 + 10, 1<<32 + 12, 10 - 1<<32, math.MinInt, math.MinInt + 10, math.MaxInt, math.MaxInt - 1}

// below1 are lengths that are none.
var below1 = []int{0, -1, -2, -65536, math.MinInt, math.MinInt + 1}

// made is a queue that may not be refused.
func made(t *testing.T, first, room int) *recvq.Queue {
	t.Helper()
	q, e := recvq.New(first, room)
	if e != api.OK || q == nil {
		t.Fatalf("New(%d, %d): %v, %d", first, room, q, e)
	}
	return q
}

// puts looks by how many bytes next goes on.
func puts(t *testing.T, q *recvq.Queue, at int, s string, want int) {
	t.Helper()
	if n, e := q.Put(at, s); n != want || e != api.OK {
		t.Errorf("Put(%d, %d bytes): %d, %d, want %d", at, len(s), n, e, want)
	}
}

func putRefused(t *testing.T, q *recvq.Queue, at int, s string) {
	t.Helper()
	if n, e := q.Put(at, s); n != 0 || e != api.ErrRange {
		t.Errorf("Put(%d, %d bytes): %d, %d, want error %d", at, len(s), n, e, api.ErrRange)
	}
}

func reads(t *testing.T, q *recvq.Queue, most int, want string) {
	t.Helper()
	if s := q.Read(most); s != want {
		t.Errorf("Read(%d): %q, want %q", most, s, want)
	}
}

// aparts looks at the stretches, twice, as asking may change nothing.
func aparts(t *testing.T, q *recvq.Queue, most int, want ...api.Range) {
	t.Helper()
	for range 2 {
		if l := q.Apart(most); !slices.Equal(l, want) {
			t.Errorf("Apart(%d): %v, want %v", most, l, want)
		}
	}
}

// stretches is what Apart tells of a window that is told as text, in which a point stands for a byte that is missing.
func stretches(next int, window string) (l []api.Range) {
	for i := range len(window) {
		if window[i] == '.' {
			continue
		}
		if i == 0 || window[i-1] == '.' {
			l = append(l, api.Range{From: (next + i) % (1 << 32)})
		}
		l[len(l)-1].To = (next + i + 1) % (1 << 32)
	}
	return l
}

// holds looks at all that a queue has: what can be read, and its window, in which a point stands for a byte that is missing. It leaves the queue itself alone.
func holds(t *testing.T, q *recvq.Queue, next int, ready, window string) {
	t.Helper()
	for range 2 {
		if q.Next() != next || q.Ready() != len(ready) || q.Window() != len(window) {
			t.Errorf("next %d, ready %d, window %d, want %d, %d, %d", q.Next(), q.Ready(), q.Window(), next, len(ready), len(window))
		}
	}
	aparts(t, q, math.MaxInt, stretches(next, window)...)
	fork := q.Fork()
	puts(t, fork, next, strings.Repeat(".", len(window)), len(window))
	reads(t, fork, math.MaxInt, ready+window)
}

// 16.1: an empty queue, all of whose room is its window.
func TestNew(t *testing.T) {
	for _, first := range []int{0, 1, 10, 1<<31 - 1, 1 << 31, top - 1, top} {
		for _, room := range []int{1, 2, 1024, api.MaxBytes - 1, api.MaxBytes} {
			q := made(t, first, room)
			reads(t, q, 9, "")
			aparts(t, q, 9)
			holds(t, q, first, "", strings.Repeat(".", room))
		}
	}
}

// 16.1
func TestNewRefused(t *testing.T) {
	refused := func(first, room int) {
		t.Helper()
		if q, e := recvq.New(first, room); q != nil || e != api.ErrRange {
			t.Errorf("New(%d, %d): %v, %d, want error %d", first, room, q, e, api.ErrRange)
		}
	}
	for _, n := range noNumbers {
		refused(n, 1)
		refused(n, api.MaxBytes)
		refused(n, 0)
	}
	for _, room := range append([]int{api.MaxBytes + 1, 1 << 32, 1<<32 + 1, math.MaxInt}, below1...) {
		refused(0, room)
		refused(top, room)
	}
}

// Chapter 16, example 1.
func TestExample(t *testing.T) {
	q := made(t, 10, 8)
	puts(t, q, 12, "cd", 0)
	aparts(t, q, 9, api.Range{From: 12, To: 14})
	puts(t, q, 10, "ab", 4)
	reads(t, q, 9, "abcd")
	holds(t, q, 14, "", "........")
}

// 16.1: the first bytes, at most most, and they are there no more; by that the window grows, while next stays.
func TestRead(t *testing.T) {
	q := made(t, top-1, 8)
	puts(t, q, top-1, "abcdef", 6)
	holds(t, q, 4, "abcdef", "..")
	reads(t, q, 1, "a")
	holds(t, q, 4, "bcdef", "...")
	reads(t, q, 2, "bc")
	holds(t, q, 4, "def", ".....")
	puts(t, q, 4, "gh", 2)
	reads(t, q, 4, "defg")
	holds(t, q, 6, "h", ".......")
	reads(t, q, 2, "h")
	reads(t, q, 2, "")
	holds(t, q, 6, "", "........")
	for _, most := range []int{3, 4, 1 << 16, 1 << 32, 1<<32 + 1, math.MaxInt} {
		at := q.Next()
		puts(t, q, at, "xyz", 3)
		reads(t, q, most, "xyz")
		holds(t, q, at+3, "", "........")
	}
}

// 16.1: below 1: none, whatever there is.
func TestReadNone(t *testing.T) {
	q := made(t, 10, 8)
	puts(t, q, 13, "d", 0)
	for _, most := range below1 {
		reads(t, q, most, "")
	}
	holds(t, q, 10, "", "...d....")
	puts(t, q, 10, "ab", 2)
	for _, most := range below1 {
		reads(t, q, most, "")
	}
	holds(t, q, 12, "ab", ".d....")
}

// 16.1, 16.2: a byte that is apart can't be read, and takes nothing of the window; it may not be read as long as one ahead of it is missing.
func TestReadNothingApart(t *testing.T) {
	q := made(t, 10, 8)
	puts(t, q, 11, "bcdefgh", 0)
	reads(t, q, 9, "")
	holds(t, q, 10, "", ".bcdefgh")
	puts(t, q, 10, "a", 8)
	holds(t, q, 18, "abcdefgh", "")
	puts(t, q, 18, "i", 0)
	holds(t, q, 18, "abcdefgh", "")
	reads(t, q, 3, "abc")
	holds(t, q, 18, "defgh", "...")
}

// 16.2
func TestPutRefused(t *testing.T) {
	q := made(t, 10, 8)
	puts(t, q, 10, "ab", 2)
	puts(t, q, 14, "e", 0)
	long := strings.Repeat("x", api.MaxBytes+1)
	for _, n := range noNumbers {
		putRefused(t, q, n, "")
		putRefused(t, q, n, "x")
		putRefused(t, q, n, long)
	}
	for _, at := range []int{0, 10, 12, 13, 14, 12 + 1<<31, top} {
		putRefused(t, q, at, long)
		putRefused(t, q, at, long+long)
	}
	holds(t, q, 12, "ab", "..e...")
	q = made(t, 10, api.MaxBytes)
	putRefused(t, q, 10, long)
	puts(t, q, 10, long[1:], api.MaxBytes)
}

// 16.2: no byte changes nothing, wherever it would be.
func TestPutNone(t *testing.T) {
	q := made(t, 10, 8)
	puts(t, q, 10, "ab", 2)
	puts(t, q, 14, "e", 0)
	for _, at := range []int{0, 10, 11, 12, 13, 14, 15, 18, 20, 21, 12 + 1<<31, top} {
		puts(t, q, at, "", 0)
	}
	holds(t, q, 12, "ab", "..e...")
}

// 16.2: where the bytes lie to the window: ahead of it, in it, behind it, over one or both of its edges; at numbers that go round, too.
func TestPutWindow(t *testing.T) {
	for first := top - 12; first <= top+3; first++ {
		for place := -9; place <= 9; place++ {
			for long := range 18 {
				number := func(place int) int { return (first + place + 1<<32) % (1 << 32) }
				q := made(t, number(-2), 6)
				puts(t, q, number(-2), "yz", 2)
				s := "abcdefghijklmnopqr"[:long]
				window := []byte("....")
				n := 0
				for i := range window {
					if j := i - place; j >= 0 && j < long {
						window[i] = s[j]
						if i == n {
							n++
						}
					}
				}
				puts(t, q, number(place), s, n)
				holds(t, q, number(n), "yz"+string(window[:n]), string(window[n:]))
				if t.Failed() {
					t.Fatalf("first %d, place %d, long %d", first, place, long)
				}
			}
		}
	}
}

// 16.2: what lies as far off as numbers can is not in the window.
func TestPutFar(t *testing.T) {
	q := made(t, 10, api.MaxBytes)
	long := strings.Repeat("x", api.MaxBytes)
	for _, at := range []int{10 + api.MaxBytes, 1 << 31, 9 + 1<<31, 10 + 1<<31, 11 + 1<<31, 1<<31 - api.MaxBytes, 10 + 1<<32 - api.MaxBytes} {
		puts(t, q, at, long, 0)
	}
	holds(t, q, 10, "", strings.Repeat(".", api.MaxBytes))
	puts(t, q, 11+1<<32-api.MaxBytes, long, 1)
	puts(t, q, 10+api.MaxBytes-1, "yz", 0)
	holds(t, q, 11, "x", strings.Repeat(".", api.MaxBytes-2)+"y")
}

// 16.2: without a window nothing is received.
func TestPutFull(t *testing.T) {
	q := made(t, top, 2)
	puts(t, q, top, "abcd", 2)
	for _, at := range []int{top - 1, top, 0, 1, 2} {
		puts(t, q, at, "xyz", 0)
	}
	holds(t, q, 1, "ab", "")
	reads(t, q, 1, "a")
	puts(t, q, 0, "xcy", 1)
	holds(t, q, 2, "bc", "")
}

// 16.2, 16.4: what came first stays, in whatever way both lie to each other.
func TestFirstStays(t *testing.T) {
	const room = 7
	for _, first := range []int{10, top - 2, top} {
		number := func(place int) int { return (first + place) % (1 << 32) }
		for bits := range 1 << 12 {
			a, b, c, d := bits&7, bits>>3&7, bits>>6&7, bits>>9
			if a > b || c > d {
				continue
			}
			all := []byte(strings.Repeat(".", room))
			q := made(t, first, room)
			n := over(all, 0, a, "abcdefg"[a:b])
			puts(t, q, number(a), "abcdefg"[a:b], n)
			holds(t, q, number(n), string(all[:n]), string(all[n:]))
			more := over(all, n, c, "ABCDEFG"[c:d])
			puts(t, q, number(c), "ABCDEFG"[c:d], more)
			n += more
			holds(t, q, number(n), string(all[:n]), string(all[n:]))
			rest := over(all, n, 0, "0123456")
			puts(t, q, first, "0123456", rest)
			holds(t, q, number(room), string(all), "")
			if t.Failed() {
				t.Fatal(first, a, b, c, d)
			}
		}
	}
}

// over writes bytes over those that are missing from a place on, and tells by how many next goes on from there.
func over(all []byte, next, place int, s string) (n int) {
	for i := range len(s) {
		if all[place+i] == '.' {
			all[place+i] = s[i]
		}
	}
	for next+n < len(all) && all[next+n] != '.' {
		n++
	}
	return n
}

// 16.2, 16.4: what was received is not received again, read or not.
func TestOnce(t *testing.T) {
	q := made(t, top-1, 8)
	puts(t, q, top-1, "abcd", 4)
	puts(t, q, top-1, "ABCD", 0)
	puts(t, q, 0, "CD", 0)
	puts(t, q, 1, "D", 0)
	holds(t, q, 2, "abcd", "....")
	reads(t, q, 9, "abcd")
	puts(t, q, top-1, "ABCD", 0)
	puts(t, q, 1, "De", 1)
	holds(t, q, 3, "e", ".......")
	puts(t, q, 4, "g", 0)
	puts(t, q, 4, "G", 0)
	puts(t, q, 2, "EFGH", 3)
	puts(t, q, 3, "xyz", 0)
	holds(t, q, 6, "eFgH", "....")
}

// 16.2: next goes on over a stretch that was apart up to the next gap, not farther.
func TestGoesOn(t *testing.T) {
	q := made(t, top-3, 12)
	puts(t, q, top-1, "cd", 0)
	puts(t, q, 3, "h", 0)
	puts(t, q, 5, "jk", 0)
	holds(t, q, top-3, "", "..cd...h.jk.")
	puts(t, q, top-3, "a", 1)
	holds(t, q, top-2, "a", ".cd...h.jk.")
	puts(t, q, top-2, "b", 3)
	holds(t, q, 0, "abcd", "...h.jk.")
	puts(t, q, top, "DEFGHI", 7)
	holds(t, q, 7, "abcdEFGhIjk", ".")
	reads(t, q, 99, "abcdEFGhIjk")
	holds(t, q, 7, "", "............")
}

// 16.3: each as long as it can be, rising from next on, however they came.
func TestApart(t *testing.T) {
	q := made(t, top-4, 20)
	puts(t, q, 6, "l", 0)
	puts(t, q, top-2, "c", 0)
	puts(t, q, 1, "g", 0)
	aparts(t, q, 9, api.Range{From: top - 2, To: top - 1}, api.Range{From: 1, To: 2}, api.Range{From: 6, To: 7})
	puts(t, q, top-1, "d", 0)
	aparts(t, q, 9, api.Range{From: top - 2, To: top}, api.Range{From: 1, To: 2}, api.Range{From: 6, To: 7})
	puts(t, q, top, "e", 0)
	aparts(t, q, 9, api.Range{From: top - 2, To: 0}, api.Range{From: 1, To: 2}, api.Range{From: 6, To: 7})
	puts(t, q, 0, "f", 0)
	aparts(t, q, 9, api.Range{From: top - 2, To: 2}, api.Range{From: 6, To: 7})
	puts(t, q, 14, "tu", 0)
	aparts(t, q, 9, api.Range{From: top - 2, To: 2}, api.Range{From: 6, To: 7}, api.Range{From: 14, To: 15})
	puts(t, q, top-4, "abc", 7)
	aparts(t, q, 9, api.Range{From: 6, To: 7}, api.Range{From: 14, To: 15})
	puts(t, q, 3, "xyzxyzx", 0)
	aparts(t, q, 9, api.Range{From: 3, To: 10}, api.Range{From: 14, To: 15})
	holds(t, q, 2, "abcdefg", ".xyzlyzx....t")
}

// 16.3: at most most, those ahead; below 1: none.
func TestApartMost(t *testing.T) {
	q := made(t, top-1, 12)
	for i := range 4 {
		puts(t, q, (top+3*i)%(1<<32), "xy", 0)
	}
	all := []api.Range{{From: top, To: 1}, {From: 2, To: 4}, {From: 5, To: 7}, {From: 8, To: 10}}
	for most := range all {
		aparts(t, q, most, all[:most]...)
	}
	for _, most := range []int{4, 5, 1 << 16, 1 << 32, 1<<32 + 1, math.MaxInt} {
		aparts(t, q, most, all...)
	}
	for _, most := range below1 {
		aparts(t, q, most)
		aparts(t, made(t, 0, 1), most)
	}
	holds(t, q, top-1, "", ".xy.xy.xy.xy")
}

// 16.1: a fork is as the other one is, and neither sees what becomes of the other one.
func TestFork(t *testing.T) {
	for name, change := range map[string]func(q *recvq.Queue){
		"order": func(q *recvq.Queue) { q.Put(0, "x") },
		"all":   func(q *recvq.Queue) { q.Put(0, "xyzxyzxyz") },
		"apart": func(q *recvq.Queue) { q.Put(3, "x") },
		"read":  func(q *recvq.Queue) { q.Read(2) },
		"twice": func(q *recvq.Queue) { q.Read(1); q.Put(0, "x"); q.Read(1); q.Put(3, "yz") },
	} {
		build := func() *recvq.Queue {
			q := made(t, top-2, 10)
			puts(t, q, top-2, "abc", 3)
			puts(t, q, 1, "ef", 0)
			puts(t, q, 5, "i", 0)
			return q
		}
		q, twin := build(), build()
		fork := q.Fork()
		change(fork)
		holds(t, q, 0, "abc", ".ef..i.")
		change(twin)
		alike(t, fork, twin)
		other := twin.Fork()
		change(q)
		alike(t, q, twin)
		q.Put(0, "DEFGHIJ")
		q.Put(9, "q")
		q.Read(4)
		alike(t, fork, other)
		alike(t, twin, other)
		if t.Failed() {
			t.Fatal(name)
		}
	}
}

// alike looks whether two queues tell the same.
func alike(t *testing.T, a, b *recvq.Queue) {
	t.Helper()
	if a.Next() != b.Next() || a.Ready() != b.Ready() || a.Window() != b.Window() {
		t.Errorf("%d, %d, %d and %d, %d, %d", a.Next(), a.Ready(), a.Window(), b.Next(), b.Ready(), b.Window())
	}
	if x, y := a.Apart(math.MaxInt), b.Apart(math.MaxInt); !slices.Equal(x, y) {
		t.Errorf("apart: %v and %v", x, y)
	}
	a, b = a.Fork(), b.Fork()
	a.Put(a.Next(), strings.Repeat(".", a.Window()))
	b.Put(b.Next(), strings.Repeat(".", b.Window()))
	if x, y := a.Read(math.MaxInt), b.Read(math.MaxInt); x != y {
		t.Errorf("%q and %q", x, y)
	}
}

// R4: what is told is new memory, spare room too.
func TestNewMemory(t *testing.T) {
	q := made(t, 10, 20)
	puts(t, q, 12, "cd", 0)
	puts(t, q, 16, "gh", 0)
	puts(t, q, 20, "kl", 0)
	want := []api.Range{{From: 12, To: 14}, {From: 16, To: 18}, {From: 20, To: 22}}
	one, two := q.Apart(9), q.Apart(9)
	for _, l := range [][]api.Range{one[:cap(one)], two[:cap(two)]} {
		for i := range l {
			l[i] = api.Range{From: 7, To: 7}
		}
		aparts(t, q, 9, want...)
		copy(two, want)
	}
	for i := range one {
		if one[i] != (api.Range{From: 7, To: 7}) {
			t.Error("two answers share memory")
		}
	}
	puts(t, q, 10, "ab", 4)
	s := q.Read(2)
	puts(t, q, 14, "ef", 4)
	puts(t, q, 18, "ij", 4)
	if s != "ab" {
		t.Errorf("what was read became %q", s)
	}
	holds(t, q, 22, "cdefghijkl", "..........")
}

// 16.2: bytes of all kinds, one that is 0 too, are received as they are.
func TestAllBytes(t *testing.T) {
	all := make([]byte, 256)
	for i := range all {
		all[i] = byte(i)
	}
	for _, order := range [][]int{{0, 1}, {1, 0}} {
		q := made(t, top-100, 512)
		for _, i := range order {
			q.Put((top-100+128*i)%(1<<32), string(all[128*i:128*i+128]))
		}
		reads(t, q, 999, string(all))
	}
	q := made(t, 10, 9)
	puts(t, q, 11, "\x00", 0)
	aparts(t, q, 9, api.Range{From: 11, To: 12})
	puts(t, q, 10, "ab", 2)
	reads(t, q, 9, "a\x00")
}

// P1: as many stretches as there can be, and as many bytes.
func TestMuch(t *testing.T) {
	q := made(t, top-1000, api.MaxBytes)
	number := func(place int) int { return (top - 1000 + place) % (1 << 32) }
	for i := 1; i < api.MaxBytes; i += 2 {
		puts(t, q, number(i), "x", 0)
	}
	l := q.Apart(math.MaxInt)
	if len(l) != api.MaxBytes/2 {
		t.Fatalf("%d stretches, want %d", len(l), api.MaxBytes/2)
	}
	for i, r := range l {
		if r != (api.Range{From: number(2*i + 1), To: number(2*i + 2)}) {
			t.Fatal(i, r)
		}
	}
	aparts(t, q, 2, l[:2]...)
	puts(t, q, number(0), strings.Repeat("y", api.MaxBytes), api.MaxBytes)
	holds(t, q, number(api.MaxBytes), strings.Repeat("yx", api.MaxBytes/2), "")
	for i := range api.MaxBytes {
		reads(t, q, 1, "yx"[i%2:i%2+1])
	}
	holds(t, q, number(api.MaxBytes), "", strings.Repeat(".", api.MaxBytes))
}
