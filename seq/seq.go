// Package seq is layer 1: see shared/doc/01-seq.md.
package seq

import "sternpost/api"

const (
	round   = api.MaxSeq + 1 // how many numbers there are until they begin again
	half    = 1 << 31
	longest = 1 << 30 // the most bytes that Cut takes, and its widest window
)

// What a call is given, from the least to look at to the most: each shape has all that the one above it has.
const (
	number  = iota // a
	pair           // and b
	window         // and long
	stretch        // and size, and long is no more than longest
)

// Check tells whether a is a sequence number.
func Check(a int) api.Code { return look(number, a, 0, 0, 0) }

// Add goes n numbers on from a, or back, if n is below 0.
func Add(a, n int) (int, api.Code) {
	if e := look(number, a, 0, 0, 0); e != api.OK {
		return 0, e
	}
	if outside(n, -round, round) {
		return 0, api.ErrRange
	}
	return wrap(a + n), api.OK
}

// Distance is how far one goes on from a to b.
func Distance(a, b int) (int, api.Code) {
	if e := look(pair, a, b, 0, 0); e != api.OK {
		return 0, e
	}
	return distance(a, b), api.OK
}

// Ahead tells whether b is ahead of a.
func Ahead(a, b int) (bool, api.Code) {
	if e := look(pair, a, b, 0, 0); e != api.OK {
		return false, e
	}
	return ahead(a, b), api.OK
}

// In tells whether n is in the window from a number on, so long.
func In(n, from, long int) (bool, api.Code) {
	if e := look(window, n, from, long, 0); e != api.OK {
		return false, e
	}
	return distance(from, n) < long, api.OK
}

// Max is b, if it is ahead of a, else a.
func Max(a, b int) (int, api.Code) {
	if e := look(pair, a, b, 0, 0); e != api.OK {
		return 0, e
	}
	if ahead(a, b) {
		return b, api.OK
	}
	return a, api.OK
}

// Cut tells, of long bytes from a number on, how many lie ahead of the window at left, and how many of the rest lie in it.
func Cut(from, long, left, size int) (skip, keep int, e api.Code) {
	if e := look(stretch, from, left, long, size); e != api.OK {
		return 0, 0, e
	}
	if ahead(from, left) {
		skip = min(distance(from, left), long)
	}
	// Where all was skipped, this distance means nothing, but then no byte is left to be kept.
	room := size - distance(left, from+skip)
	return skip, max(0, min(long-skip, room)), api.OK
}

// look refuses what is not of that shape. It may begin with what comes last, as all is refused by the same error.
func look(shape, a, b, long, size int) api.Code {
	switch shape {
	case stretch:
		if long > longest || outside(size, 0, longest) {
			return api.ErrRange
		}
		fallthrough
	case window:
		if outside(long, 0, round) {
			return api.ErrRange
		}
		fallthrough
	case pair:
		if outside(b, 0, api.MaxSeq) {
			return api.ErrRange
		}
		fallthrough
	case number:
		if outside(a, 0, api.MaxSeq) {
			return api.ErrRange
		}
	}
	return api.OK
}

func outside(n, least, most int) bool { return n < least || n > most }

// wrap leans on the wrap-round of uint32, which is that of sequence numbers.
func wrap(n int) int { return int(uint32(n)) }

func distance(a, b int) int { return wrap(b - a) }

func ahead(a, b int) bool {
	d := distance(a, b)
	return d > 0 && d < half
}
