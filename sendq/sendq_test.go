package sendq_test

import (
	"math"
	"slices"
	"strings"
	"testing"

	"sternpost/api"
	"sternpost/sendq"
)

const top = api.MaxSeq

// noNumbers are numbers that are no sequence numbers; some of them are such ones, once they are cut to 32 bits.
var noNumbers = []int{-1, -2, 1 << 32, 1<<32 + 1, 1<<32 + 10, 1<<32 + 12, 10 - 1<<32, math.MinInt, math.MinInt + 10, math.MaxInt, math.MaxInt - 1}

// below1 are lengths that are none.
var below1 = []int{0, -1, -2, -65536, math.MinInt, math.MinInt + 1}

// made is a queue that may not be refused.
func made(t *testing.T, first, room int) *sendq.Queue {
	t.Helper()
	q, e := sendq.New(first, room)
	if e != api.OK || q == nil {
		t.Fatalf("New(%d, %d): %v, %d", first, room, q, e)
	}
	return q
}

// writes looks whether so many bytes of s are taken.
func writes(t *testing.T, q *sendq.Queue, s string, want int) {
	t.Helper()
	if n, e := q.Write(s); n != want || e != api.OK {
		t.Errorf("Write of %d bytes: %d, %d, want %d", len(s), n, e, want)
	}
}

func writeRefused(t *testing.T, q *sendq.Queue, s string) {
	t.Helper()
	if n, e := q.Write(s); n != 0 || e != api.ErrFull {
		t.Errorf("Write of %d bytes: %d, %d, want error %d", len(s), n, e, api.ErrFull)
	}
}

// acks looks whether so many bytes are gone.
func acks(t *testing.T, q *sendq.Queue, n, want int) {
	t.Helper()
	if gone, e := q.Ack(n); gone != want || e != api.OK {
		t.Errorf("Ack(%d): %d, %d, want %d", n, gone, e, want)
	}
}

func ackRefused(t *testing.T, q *sendq.Queue, numbers ...int) {
	t.Helper()
	for _, n := range numbers {
		if gone, e := q.Ack(n); gone != 0 || e != api.ErrRange {
			t.Errorf("Ack(%d): %d, %d, want error %d", n, gone, e, api.ErrRange)
		}
	}
}

// sends looks what is sent, in a window, at most so many bytes.
func sends(t *testing.T, q *sendq.Queue, window, most, at int, s string) {
	t.Helper()
	if a, x := q.Next(window, most); a != at || x != s {
		t.Errorf("Next(%d, %d): %d %q, want %d %q", window, most, a, x, at, s)
	}
}

// aparts looks how many bytes were received apart, once these ranges were told.
func aparts(t *testing.T, q *sendq.Queue, want int, l ...api.Range) {
	t.Helper()
	if n := q.Apart(l...); n != want {
		t.Errorf("Apart(%v): %d, want %d", l, n, want)
	}
}

// misses looks at the first bytes that are missing, twice, as asking may change nothing.
func misses(t *testing.T, q *sendq.Queue, most, at int, s string) {
	t.Helper()
	for range 2 {
		if a, x := q.Hole(most); a != at || x != s {
			t.Errorf("Hole(%d): %d %q, want %d %q", most, a, x, at, s)
		}
	}
}

func probes(t *testing.T, q *sendq.Queue, at int, s string) {
	t.Helper()
	if a, x := q.Probe(); a != at || x != s {
		t.Errorf("Probe: %d %q, want %d %q", a, x, at, s)
	}
}

// has looks at a queue's state, twice, as asking may change nothing.
func has(t *testing.T, q *sendq.Queue, left, next, long int) {
	t.Helper()
	for range 2 {
		if a, b, c := q.State(); a != left || b != next || c != long {
			t.Errorf("State: %d, %d, %d, want %d, %d, %d", a, b, c, left, next, long)
		}
	}
}

// holds looks at all that a queue has: what was not acknowledged, which of it was received apart (told by capitals), and what was not sent. It leaves the queue itself alone.
func holds(t *testing.T, q *sendq.Queue, left int, sent, unsent string) {
	t.Helper()
	has(t, q, left, (left+len(sent))%(1<<32), len(sent)+len(unsent))
	if got := told(t, q.Fork(), len(sent)); got != sent {
		t.Errorf("sent: %q, want %q", got, sent)
	}
	sends(t, q.Fork(), math.MaxInt, math.MaxInt, (left+len(sent))%(1<<32), unsent)
}

// told is what a queue has of bytes that were sent, byte by byte, those that were received apart as capitals; after it they are gone.
func told(t *testing.T, q *sendq.Queue, sent int) string {
	t.Helper()
	s := ""
	for range sent {
		left, _, _ := q.State()
		at, b := q.Hole(1)
		_, x := q.Probe()
		if at != left || b == "" {
			x = strings.ToUpper(x)
		}
		s += x
		acks(t, q, (left+1)%(1<<32), 1)
	}
	return s
}

// 15.1: an empty queue, of which nothing can be had, whatever is asked.
func TestNew(t *testing.T) {
	for _, first := range []int{0, 1, 10, 1<<31 - 1, 1 << 31, top - 1, top} {
		for _, room := range []int{1, 2, 1024, api.MaxBytes - 1, api.MaxBytes} {
			q := made(t, first, room)
			holds(t, q, first, "", "")
			sends(t, q, 9, 9, first, "")
			misses(t, q, 9, first, "")
			probes(t, q, first, "")
			aparts(t, q, 0)
			aparts(t, q, 0, api.Range{From: first, To: first}, api.Range{From: first, To: (first + 1) % (1 << 32)})
			acks(t, q, first, 0)
			ackRefused(t, q, (first+1)%(1<<32), (first+top)%(1<<32), first^1<<31)
			holds(t, q, first, "", "")
		}
	}
}

// 15.1
func TestNewRefused(t *testing.T) {
	refused := func(first, room int) {
		t.Helper()
		if q, e := sendq.New(first, room); q != nil || e != api.ErrRange {
			t.Errorf("New(%d, %d): %v, %d, want error %d", first, room, q, e, api.ErrRange)
		}
	}
	for _, n := range noNumbers {
		refused(n, 1)
		refused(n, api.MaxBytes)
		refused(n, 0)
	}
	for _, room := range append([]int{api.MaxBytes + 1, 1 << 32, 1<<32 + 1, math.MaxInt}, below1...) {
		refused(0, room)
		refused(top, room)
	}
}

// 15.1: as many bytes as there is room for, and they are its last ones.
func TestWrite(t *testing.T) {
	q := made(t, 10, 8)
	writes(t, q, "", 0)
	has(t, q, 10, 10, 0)
	writes(t, q, "abc", 3)
	holds(t, q, 10, "", "abc")
	writes(t, q, "", 0)
	writes(t, q, "defg", 4)
	holds(t, q, 10, "", "abcdefg")
	writes(t, q, "hij", 1)
	holds(t, q, 10, "", "abcdefgh")
	writeRefused(t, q, "x")
	writeRefused(t, q, "xyz")
	writes(t, q, "", 0)
	holds(t, q, 10, "", "abcdefgh")
	made8 := made(t, 10, 8)
	writes(t, made8, "abcdefgh", 8)
	writeRefused(t, made8, "x")
	holds(t, made8, 10, "", "abcdefgh")
}

// 15.1, 15.2: what is sent takes room still; what is acknowledged does not.
func TestRoom(t *testing.T) {
	q := made(t, 10, 4)
	writes(t, q, "abcdef", 4)
	sends(t, q, 4, 4, 10, "abcd")
	writeRefused(t, q, "e")
	aparts(t, q, 2, api.Range{From: 12, To: 14})
	writeRefused(t, q, "e")
	acks(t, q, 11, 1)
	writes(t, q, "ef", 1)
	writeRefused(t, q, "f")
	holds(t, q, 11, "bCD", "e")
	acks(t, q, 14, 3)
	writes(t, q, "fghi", 3)
	holds(t, q, 14, "", "efgh")
}

// 15.1: the least room, and the greatest one; all bytes there are, too.
func TestRoomEdges(t *testing.T) {
	q := made(t, top, 1)
	for i := range 4 {
		at := (top + i) % (1 << 32)
		writes(t, q, "xyz"[i%3:], 1)
		writeRefused(t, q, "q")
		sends(t, q, 1, 1, at, "xyz"[i%3:i%3+1])
		acks(t, q, (at+1)%(1<<32), 1)
	}
	all := make([]byte, api.MaxBytes+3)
	for i := range all {
		all[i] = byte(i + i>>8)
	}
	q = made(t, top-3, api.MaxBytes)
	writes(t, q, string(all), api.MaxBytes)
	writeRefused(t, q, "x")
	sends(t, q, 1<<30, 1<<30, top-3, string(all[:api.MaxBytes]))
	has(t, q, top-3, api.MaxBytes-4, api.MaxBytes)
	aparts(t, q, api.MaxBytes, api.Range{From: top - 3, To: api.MaxBytes - 4})
	misses(t, q, 1, top-3, "")
	ackRefused(t, q, api.MaxBytes-3, top-4)
	acks(t, q, api.MaxBytes-4, api.MaxBytes)
	has(t, q, api.MaxBytes-4, api.MaxBytes-4, 0)
}

// Chapter 15, example 1.
func TestExample(t *testing.T) {
	q := made(t, 10, 8)
	writes(t, q, "abcdefghij", 8)
	sends(t, q, 5, 3, 10, "abc")
	sends(t, q, 5, 3, 13, "de")
	acks(t, q, 12, 2)
	holds(t, q, 12, "cde", "fgh")
}

// 15.2: from left to next, both of them too; bytes that are there, but were not sent, can't be acknowledged.
func TestAck(t *testing.T) {
	q := made(t, 10, 20)
	writes(t, q, "abcdefgh", 8)
	refused := func(numbers ...int) {
		t.Helper()
		ackRefused(t, q, numbers...)
		ackRefused(t, q, noNumbers...)
		ackRefused(t, q, 0, 1, top, 1<<31, 1<<31+10, 1<<31+12)
	}
	refused(9, 11, 12, 17, 18, 19)
	acks(t, q, 10, 0)
	holds(t, q, 10, "", "abcdefgh")
	sends(t, q, 9, 5, 10, "abcde")
	refused(9, 16, 17, 18, 19)
	holds(t, q, 10, "abcde", "fgh")
	acks(t, q, 10, 0)
	acks(t, q, 12, 2)
	refused(9, 10, 11, 16, 18)
	holds(t, q, 12, "cde", "fgh")
	acks(t, q, 12, 0)
	acks(t, q, 15, 3)
	refused(14, 16, 18)
	holds(t, q, 15, "", "fgh")
	sends(t, q, 9, 5, 15, "fgh")
	acks(t, q, 18, 3)
	refused(17, 19)
	holds(t, q, 18, "", "")
}

// 15.2: numbers go round.
func TestAckRound(t *testing.T) {
	for want := range 6 {
		q := made(t, top-2, 20)
		writes(t, q, "abcdefgh", 8)
		sends(t, q, 5, 5, top-2, "abcde")
		ackRefused(t, q, top-3, 3, 4, 5, 1<<31)
		n := (top - 2 + want) % (1 << 32)
		acks(t, q, n, want)
		holds(t, q, n, "abcde"[want:], "fgh")
		ackRefused(t, q, (n+top)%(1<<32), 3)
	}
}

// 15.3: as many as there are, at most most, and at most as many as the window has from left on, not from next on.
func TestNext(t *testing.T) {
	for _, x := range []struct {
		sent, gone, window, most int
		want                     string
	}{
		{0, 0, 1, 1, "a"}, {0, 0, 3, 1, "a"}, {0, 0, 1, 3, "a"}, {0, 0, 3, 3, "abc"},
		{0, 0, 8, 8, "abcdefgh"}, {0, 0, 9, 9, "abcdefgh"}, {0, 0, 7, 9, "abcdefg"}, {0, 0, 9, 7, "abcdefg"},
		{3, 0, 3, 9, ""}, {3, 0, 2, 9, ""}, {3, 0, 1, 9, ""}, {3, 0, 4, 9, "d"}, {3, 0, 8, 9, "defgh"}, {3, 0, 8, 2, "de"}, {3, 0, 9, 9, "defgh"},
		{5, 2, 3, 9, ""}, {5, 2, 4, 9, "f"}, {5, 2, 5, 9, "fg"}, {5, 2, 5, 1, "f"}, {5, 2, 6, 9, "fgh"}, {5, 5, 1, 9, "f"}, {5, 5, 2, 9, "fg"},
		{8, 0, 9, 9, ""}, {8, 0, 8, 1, ""}, {8, 8, 9, 9, ""},
		{3, 0, 1 << 16, 1 << 16, "defgh"}, {3, 0, 1 << 32, 1 << 32, "defgh"}, {3, 0, 1<<32 + 4, 9, "defgh"}, {3, 0, 9, 1<<32 + 1, "defgh"},
		{3, 1, math.MaxInt, math.MaxInt, "defgh"}, {3, 1, math.MaxInt - 1, 4, "defg"}, {3, 1, 4, math.MaxInt, "de"},
	} {
		for _, first := range []int{10, top - 1, top - 4, top} {
			q := made(t, first, 8)
			writes(t, q, "abcdefgh", 8)
			sends(t, q, x.sent, x.sent, first, "abcdefgh"[:x.sent])
			left, next := (first+x.gone)%(1<<32), (first+x.sent)%(1<<32)
			acks(t, q, left, x.gone)
			sends(t, q, x.window, x.most, next, x.want)
			holds(t, q, left, "abcdefgh"[x.gone:x.sent]+x.want, "abcdefgh"[x.sent+len(x.want):])
			if t.Failed() {
				t.Fatal(first, x)
			}
		}
	}
}

// 15.3: a window or a length below 1 sends nothing, wherever next is.
func TestNextNone(t *testing.T) {
	q := made(t, 10, 8)
	writes(t, q, "abcdefgh", 8)
	for i := range 8 {
		for _, n := range below1 {
			sends(t, q, n, 9, 10+i, "")
			sends(t, q, 9, n, 10+i, "")
			sends(t, q, n, n, 10+i, "")
			sends(t, q, math.MaxInt, n, 10+i, "")
			sends(t, q, n, math.MaxInt, 10+i, "")
		}
		holds(t, q, 10, "abcdefgh"[:i], "abcdefgh"[i:])
		sends(t, q, 8, 1, 10+i, "abcdefgh"[i:i+1])
	}
}

// 15.3: bytes that are written later follow.
func TestNextGoesOn(t *testing.T) {
	q := made(t, top-1, 8)
	writes(t, q, "ab", 2)
	sends(t, q, 8, 8, top-1, "ab")
	sends(t, q, 8, 8, 0, "")
	writes(t, q, "cd", 2)
	sends(t, q, 8, 1, 0, "c")
	writes(t, q, "ef", 2)
	sends(t, q, 8, 8, 1, "def")
	holds(t, q, top-1, "abcdef", "")
}

// sent is a queue of bytes of which some were sent.
func sent(t *testing.T, first int, s, unsent string) *sendq.Queue {
	t.Helper()
	q := made(t, first, 64)
	writes(t, q, s+unsent, len(s+unsent))
	sends(t, q, len(s), len(s), first, s)
	return q
}

// 15.2: which ranges are heard, each alone: from left to next, and not the wrong way round.
func TestApart(t *testing.T) {
	for _, x := range []struct {
		r    api.Range
		want string
	}{
		{api.Range{From: 10, To: 11}, "Abcdef"}, {api.Range{From: 10, To: 16}, "ABCDEF"}, {api.Range{From: 15, To: 16}, "abcdeF"}, {api.Range{From: 12, To: 14}, "abCDef"},
		{api.Range{From: 10, To: 10}, "abcdef"}, {api.Range{From: 16, To: 16}, "abcdef"}, {api.Range{From: 12, To: 12}, "abcdef"},
		{api.Range{From: 14, To: 12}, "abcdef"}, {api.Range{From: 16, To: 10}, "abcdef"}, {api.Range{From: 11, To: 10}, "abcdef"},
		{api.Range{From: 9, To: 12}, "abcdef"}, {api.Range{From: 12, To: 9}, "abcdef"}, {api.Range{From: 14, To: 17}, "abcdef"}, {api.Range{From: 17, To: 14}, "abcdef"},
		{api.Range{From: 9, To: 17}, "abcdef"}, {api.Range{From: 16, To: 17}, "abcdef"}, {api.Range{From: 17, To: 18}, "abcdef"}, {api.Range{From: 8, To: 9}, "abcdef"},
		{api.Range{From: 0, To: 0}, "abcdef"}, {api.Range{From: top, To: 12}, "abcdef"}, {api.Range{From: 12, To: 1<<31 + 12}, "abcdef"}, {api.Range{From: 1<<31 + 12, To: 13}, "abcdef"},
	} {
		q := sent(t, 10, "abcdef", "gh")
		n := 0
		if x.want != "abcdef" {
			n = x.r.To - x.r.From
		}
		aparts(t, q, n, x.r)
		holds(t, q, 10, x.want, "gh")
		aparts(t, q, n)
		if t.Failed() {
			t.Fatal(x)
		}
	}
}

// 15.2: what is no sequence number is passed over, and what stands beside it is heard.
func TestApartNoNumbers(t *testing.T) {
	for _, n := range noNumbers {
		q := sent(t, 10, "abcdef", "gh")
		aparts(t, q, 0, api.Range{From: n, To: 14}, api.Range{From: 12, To: n}, api.Range{From: n, To: n}, api.Range{From: n, To: 10}, api.Range{From: 16, To: n})
		holds(t, q, 10, "abcdef", "gh")
		aparts(t, q, 2, api.Range{From: n, To: 14}, api.Range{From: 11, To: 13}, api.Range{From: 12, To: n})
		holds(t, q, 10, "aBCdef", "gh")
	}
}

// 15.2: how two ranges lie to each other, in either order, by one call and by two.
func TestApartTwo(t *testing.T) {
	const s = "abcdefg"
	for _, first := range []int{10, top - 2, top} {
		number := func(place int) int { return (first + place) % (1 << 32) }
		for bits := range 1 << 12 {
			a, b, c, d := bits&7, bits>>3&7, bits>>6&7, bits>>9
			l := []api.Range{{From: number(a), To: number(b)}, {From: number(c), To: number(d)}}
			want, n := []byte(s), 0
			for i := range want {
				if a <= i && i < b || c <= i && i < d {
					want[i] -= 'a' - 'A'
					n++
				}
			}
			q := sent(t, first, s, "h")
			aparts(t, q, n, l...)
			if a < b {
				twice := sent(t, first, s, "h")
				aparts(t, twice, b-a, l[0])
				aparts(t, twice, n, l[1])
				holds(t, twice, first, string(want), "h")
			}
			holds(t, q, first, string(want), "h")
			if t.Failed() {
				t.Fatal(l)
			}
		}
	}
}

// 15.2: many ranges; one that fills the gaps makes them one.
func TestApartMany(t *testing.T) {
	q := sent(t, top-3, "abcdefghijklmnopqrst", "u")
	aparts(t, q, 8, api.Range{From: 12, To: 14}, api.Range{From: top - 1, To: 1}, api.Range{From: 8, To: 10}, api.Range{From: 4, To: 5})
	holds(t, q, top-3, "abCDEfghIjklMNopQRst", "u")
	aparts(t, q, 8, api.Range{From: 4, To: 5}, api.Range{From: 8, To: 10}, api.Range{From: 0, To: 1})
	aparts(t, q, 9, api.Range{From: 7, To: 9})
	holds(t, q, top-3, "abCDEfghIjkLMNopQRst", "u")
	aparts(t, q, 12, api.Range{From: 3, To: 9})
	holds(t, q, top-3, "abCDEfgHIJKLMNopQRst", "u")
	aparts(t, q, 14, api.Range{From: 1, To: 8}, api.Range{From: 10, To: 10})
	holds(t, q, top-3, "abCDEFGHIJKLMNopQRst", "u")
	aparts(t, q, 16, api.Range{From: 10, To: 12})
	holds(t, q, top-3, "abCDEFGHIJKLMNOPQRst", "u")
	aparts(t, q, 20, api.Range{From: top - 3, To: 16})
	holds(t, q, top-3, "ABCDEFGHIJKLMNOPQRST", "u")
}

// 15.2: what was received apart is counted from left on: what is acknowledged counts no more, what is sent later was not received.
func TestApartAndAck(t *testing.T) {
	for gone, want := range []string{"abCDefGHi", "bCDefGHi", "CDefGHi", "DefGHi", "efGHi", "fGHi", "GHi", "Hi", "i", ""} {
		q := sent(t, top-3, "abcdefghi", "jkl")
		aparts(t, q, 4, api.Range{From: top - 1, To: 0}, api.Range{From: 2, To: 4})
		left := (top - 3 + gone) % (1 << 32)
		acks(t, q, left, gone)
		holds(t, q, left, want, "jkl")
		n := capitals(want)
		aparts(t, q, n)
		sends(t, q, 99, 99, 5, "jkl")
		holds(t, q, left, want+"jkl", "")
		aparts(t, q, n+2, api.Range{From: 5, To: 7})
		holds(t, q, left, want+"JKl", "")
		acks(t, q, 8, len(want)+3)
		aparts(t, q, 0, api.Range{From: 8, To: 8}, api.Range{From: 7, To: 8})
		holds(t, q, 8, "", "")
	}
}

func capitals(s string) int {
	n := 0
	for _, c := range s {
		if c < 'a' {
			n++
		}
	}
	return n
}

// 15.3: the first bytes that are missing, up to one that was received, or to next.
func TestHole(t *testing.T) {
	q := sent(t, top-1, "abcdefghi", "jkl")
	misses(t, q, 99, top-1, "abcdefghi")
	misses(t, q, 9, top-1, "abcdefghi")
	misses(t, q, 8, top-1, "abcdefgh")
	misses(t, q, 1, top-1, "a")
	misses(t, q, math.MaxInt, top-1, "abcdefghi")
	aparts(t, q, 1, api.Range{From: 5, To: 6})
	misses(t, q, 99, top-1, "abcdefg")
	aparts(t, q, 3, api.Range{From: 1, To: 3})
	misses(t, q, 99, top-1, "abc")
	misses(t, q, 3, top-1, "abc")
	misses(t, q, 2, top-1, "ab")
	aparts(t, q, 4, api.Range{From: top - 1, To: top})
	misses(t, q, math.MaxInt, top, "bc")
	misses(t, q, 1, top, "b")
	aparts(t, q, 5, api.Range{From: top, To: 0})
	misses(t, q, 99, 0, "c")
	aparts(t, q, 6, api.Range{From: 0, To: 1})
	misses(t, q, 99, 3, "fg")
	misses(t, q, 1, 3, "f")
	aparts(t, q, 8, api.Range{From: 3, To: 5})
	misses(t, q, math.MaxInt, 6, "i")
	aparts(t, q, 9, api.Range{From: 6, To: 7})
	misses(t, q, 99, top-1, "")
	misses(t, q, math.MaxInt, top-1, "")
	sends(t, q, 10, 10, 7, "j")
	misses(t, q, 99, 7, "j")
	sends(t, q, 99, 99, 8, "kl")
	misses(t, q, 2, 7, "jk")
	holds(t, q, top-1, "ABCDEFGHIjkl", "")
}

// 15.3: left, and none, if most is below 1, if nothing was sent, or if nothing is missing.
func TestHoleNone(t *testing.T) {
	for _, n := range below1 {
		q := sent(t, top, "abcd", "e")
		misses(t, q, n, top, "")
		aparts(t, q, 1, api.Range{From: top, To: 0})
		misses(t, q, n, top, "")
		misses(t, q, 9, 0, "bcd")
		aparts(t, q, 4, api.Range{From: 0, To: 3})
		misses(t, q, n, top, "")
		misses(t, q, 9, top, "")
		acks(t, q, 2, 3)
		misses(t, q, 9, 2, "")
		acks(t, q, 3, 1)
		misses(t, q, 9, 3, "")
		misses(t, q, n, 3, "")
		sends(t, q, 9, 9, 3, "e")
		misses(t, q, n, 3, "")
		misses(t, q, 9, 3, "e")
	}
}

// 15.3: the byte at left, if it was sent, received apart or not; nothing else is sent by that.
func TestProbeSent(t *testing.T) {
	q := sent(t, top-1, "abcd", "ef")
	for range 3 {
		probes(t, q, top-1, "a")
	}
	holds(t, q, top-1, "abcd", "ef")
	aparts(t, q, 2, api.Range{From: top - 1, To: 0})
	probes(t, q, top-1, "a")
	acks(t, q, top, 1)
	probes(t, q, top, "b")
	acks(t, q, 1, 2)
	probes(t, q, 1, "d")
	holds(t, q, 1, "d", "ef")
}

// 15.3: else that at next, which is sent by that, once: then it is that at left.
func TestProbeUnsent(t *testing.T) {
	q := sent(t, top-1, "a", "bcd")
	acks(t, q, top, 1)
	sends(t, q, 0, 9, top, "")
	for range 3 {
		probes(t, q, top, "b")
		holds(t, q, top, "b", "cd")
	}
	ackRefused(t, q, 1)
	acks(t, q, 0, 1)
	probes(t, q, 0, "c")
	sends(t, q, 1, 9, 1, "")
	sends(t, q, 2, 9, 1, "d")
	aparts(t, q, 1, api.Range{From: 0, To: 1})
	misses(t, q, 9, 1, "d")
	acks(t, q, 2, 2)
	probes(t, q, 2, "")
	holds(t, q, 2, "", "")
	writes(t, q, "e", 1)
	probes(t, q, 2, "e")
	holds(t, q, 2, "e", "")
}

// 15.1: a fork is as the other one is, and neither sees what becomes of the other one.
func TestFork(t *testing.T) {
	for name, change := range map[string]func(q *sendq.Queue){
		"write": func(q *sendq.Queue) { q.Write("xyz") },
		"ack":   func(q *sendq.Queue) { q.Ack(1) },
		"all":   func(q *sendq.Queue) { q.Ack(3); q.Write("xyzxyz"); q.Next(99, 99); q.Apart(api.Range{From: 4, To: 6}) },
		"next":  func(q *sendq.Queue) { q.Next(99, 1) },
		"apart": func(q *sendq.Queue) { q.Apart(api.Range{From: top - 1, To: 2}) },
		"probe": func(q *sendq.Queue) { q.Ack(3); q.Probe() },
		"twice": func(q *sendq.Queue) { q.Ack(top - 1); q.Write("x"); q.Ack(0); q.Write("y") },
	} {
		build := func() *sendq.Queue {
			q := sent(t, top-2, "abcdef", "gh")
			aparts(t, q, 2, api.Range{From: top, To: 0}, api.Range{From: 2, To: 3})
			return q
		}
		q, twin := build(), build()
		fork := q.Fork()
		change(fork)
		holds(t, q, top-2, "abCdeF", "gh")
		change(twin)
		alike(t, fork, twin)
		other := twin.Fork()
		change(q)
		alike(t, q, twin)
		q.Write("q")
		q.Next(99, 99)
		q.Apart(api.Range{From: 2, To: 5})
		alike(t, fork, other)
		alike(t, twin, other)
		if t.Failed() {
			t.Fatal(name)
		}
	}
}

// 15.1: a fork of a fork has the same room, and a full one is full.
func TestForkFar(t *testing.T) {
	q := made(t, 5, 3).Fork().Fork()
	writes(t, q, "abcd", 3)
	writeRefused(t, q.Fork(), "d")
	sends(t, q, 2, 2, 5, "ab")
	holds(t, q.Fork().Fork(), 5, "ab", "c")
}

// alike looks whether two queues have the same.
func alike(t *testing.T, q, want *sendq.Queue) {
	t.Helper()
	left, next, long := want.State()
	has(t, q, left, next, long)
	many := (next - left + 1<<32) % (1 << 32)
	at, unsent := want.Fork().Next(math.MaxInt, math.MaxInt)
	sends(t, q.Fork(), math.MaxInt, math.MaxInt, at, unsent)
	if a, b := told(t, q.Fork(), many), told(t, want.Fork(), many); a != b {
		t.Errorf("sent: %q, want %q", a, b)
	}
}

// 15.1: two queues have nothing to do with each other.
func TestTwo(t *testing.T) {
	a, b := made(t, 10, 8), made(t, 10, 8)
	writes(t, a, "abcd", 4)
	holds(t, b, 10, "", "")
	writes(t, b, "wxyz", 4)
	sends(t, a, 9, 3, 10, "abc")
	aparts(t, a, 1, api.Range{From: 11, To: 12})
	holds(t, b, 10, "", "wxyz")
	acks(t, a, 11, 1)
	holds(t, b, 10, "", "wxyz")
	holds(t, a, 11, "Bc", "d")
}

// R4: a list of ranges is the caller's: it is not changed, not kept, and what lies behind its length is not read.
func TestMemory(t *testing.T) {
	q := sent(t, 10, "abcdefgh", "")
	whole := []api.Range{{From: 15, To: 17}, {From: 11, To: 12}, {From: 12, To: 11}, {From: 10, To: 18}}
	was := slices.Clone(whole)
	aparts(t, q, 3, whole[:2]...)
	if !slices.Equal(whole, was) {
		t.Errorf("the ranges became %v", whole)
	}
	clear(whole)
	holds(t, q, 10, "aBcdeFGh", "")
	aparts(t, q, 3, whole[:1]...)
	aparts(t, q, 4, append(whole[:1], api.Range{From: 14, To: 15})...)
}

// P1: a call with a great many ranges, and a queue with as many gaps as it can have, end soon.
func TestManyRanges(t *testing.T) {
	q := made(t, top-100, api.MaxBytes)
	writes(t, q, strings.Repeat("ab", api.MaxBytes/2), api.MaxBytes)
	q.Next(api.MaxBytes, api.MaxBytes)
	number := func(place int) int { return (top - 100 + place) % (1 << 32) }
	var gaps, wide []api.Range
	for i := range api.MaxBytes / 2 {
		place := i * 7919 % (api.MaxBytes / 2) * 2
		gaps = append(gaps, api.Range{From: number(place), To: number(place + 1)})
	}
	aparts(t, q, api.MaxBytes/2, gaps...)
	misses(t, q, 9, number(1), "b")
	for i := range 1 << 18 {
		wide = append(wide, api.Range{From: number(i % 3), To: number(api.MaxBytes - i%5)})
	}
	aparts(t, q.Fork(), api.MaxBytes, wide...)
	acks(t, q, number(api.MaxBytes/2), api.MaxBytes/2)
	aparts(t, q, api.MaxBytes/4)
	misses(t, q, 9, number(api.MaxBytes/2+1), "b")
}
