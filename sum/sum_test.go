package sum_test

import (
	"math"
	"strings"
	"testing"

	"sternpost/api"
	"sternpost/sum"
)

const (
	two  = 1<<16 - 1 // the greatest number of two bytes
	four = 1<<32 - 1
)

// farNumbers lie in no range that this layer takes.
var farNumbers = []int{-1, -2, 1 << 48, math.MinInt, math.MinInt + 1, math.MaxInt, math.MaxInt - 1}

// bytesOf makes long bytes that differ, and from seed to seed.
func bytesOf(seed, long int) string {
	b := make([]byte, long)
	n := uint32(seed)*2654435761 + 12345
	for i := range b {
		n = n*1664525 + 1013904223
		b[i] = byte(n >> 24)
	}
	return string(b)
}

// slow is the sum as the words say it: pairs are added one by one, and what is above 16 bits at once.
func slow(s string) int {
	if len(s)%2 != 0 {
		s += "\x00"
	}
	n := 0
	for i := 0; i < len(s); i += 2 {
		n += int(s[i])*256 + int(s[i+1])
		if n > two {
			n -= two
		}
	}
	return two - n
}

// alike tells whether two sums are the same, but that 0 and 65535 stand for one another.
func alike(a, b int) bool { return a%two == b%two }

// 2.1: Of.
func TestOf(t *testing.T) {
	x := strings.Repeat("x", api.MaxBytes)
	for i, c := range []struct {
		pieces []string
		want   int
		e      api.Code
	}{
		{nil, two, api.OK},
		{[]string{""}, two, api.OK},
		{[]string{"\x00\x00"}, two, api.OK},
		{[]string{"\x00\x01\xf2\x03\xf4\xf5\xf6\xf7"}, 8717, api.OK},
		{[]string{"\x00\x01\xf2", "", "\x03", "\xf4\xf5\xf6\xf7"}, 8717, api.OK},
		{[]string{"\x12\x34"}, two - 0x1234, api.OK},
		{[]string{"\x12\x34\x56"}, two - 0x1234 - 0x5600, api.OK},
		{[]string{"\x12", "\x34"}, two - 0x1234, api.OK},
		{[]string{"\x01"}, two - 256, api.OK},
		{[]string{"\xff\xff"}, 0, api.OK},
		{[]string{"\xff\xff\x00\x01"}, two - 1, api.OK},
		{[]string{"\xff\xff\xff\xff"}, 0, api.OK},
		{[]string{"\xff\xff\xff\xff\x00\x01"}, two - 1, api.OK},
		{[]string{x}, slow(x), api.OK},
		{[]string{x, ""}, slow(x), api.OK},
		{[]string{strings.Repeat("\xff", api.MaxBytes)}, 0, api.OK},
		{[]string{strings.Repeat("\xff", api.MaxBytes-2) + "\xff\xfe"}, 1, api.OK},
		{[]string{x + "x"}, 0, api.ErrLong},
		{[]string{x, "x"}, 0, api.ErrLong},
		{[]string{"x", x}, 0, api.ErrLong},
		{[]string{x, x, x}, 0, api.ErrLong},
		{make([]string, api.MaxItems), two, api.OK},
		{append(make([]string, api.MaxItems-1), x), slow(x), api.OK},
		{make([]string, api.MaxItems+1), 0, api.ErrLong},
		{append(make([]string, api.MaxItems), "a"), 0, api.ErrLong},
	} {
		if n, e := sum.Of(c.pieces...); n != c.want || e != c.e {
			t.Errorf("case %d: %d, %d", i, n, e)
		}
	}
}

// 2.1: Of is the sum of all pieces one behind the other, wherever they are cut, and changes none.
func TestOfPieces(t *testing.T) {
	for long := range 40 {
		s := bytesOf(long, long)
		for i := range long + 1 {
			for j := i; j <= long; j++ {
				pieces := []string{s[:i], s[i:j], s[j:]}
				if n, e := sum.Of(pieces...); n != slow(s) || e != api.OK {
					t.Fatalf("%q cut at %d, %d: %d, %d", s, i, j, n, e)
				}
				if pieces[0] != s[:i] || pieces[1] != s[i:j] || pieces[2] != s[j:] {
					t.Fatal("the pieces were changed")
				}
			}
		}
	}
}

// 2.1: Whole, of bytes of any length.
func TestWhole(t *testing.T) {
	long := strings.Repeat("\xff", api.MaxBytes)
	for i, c := range []struct {
		s    string
		want bool
	}{
		{"", false}, {"\x00\x00", false}, {"\x00", false}, {"\xff", false}, {"ab", false},
		{"\xff\xff", true}, {"\xff\xff\x00", true}, {"\xff\xfe\x00\x01", true}, {"\xff\xfe\x01", false}, {"\xfe\xff\x01", true},
		{"\xff\xff\x00\x01", false}, {"\xff\xff\xff\xff", true},
		{long, true}, {long + "\xff\xff", true}, {long + "\x00\x01", false}, {long + "\x00\x00\x00", true}, {long + "\x01", false},
	} {
		if p := sum.Whole(c.s); p != c.want {
			t.Errorf("case %d: %v", i, p)
		}
	}
	for seed := range 300 {
		if s := bytesOf(seed, seed%50); sum.Whole(s) != (slow(s) == 0) {
			t.Errorf("%q: %v", s, sum.Whole(s))
		}
	}
}

// 2.1: Put, with the least and the greatest number of each length.
func TestPut(t *testing.T) {
	for _, c := range []struct {
		n, bytes int
		want     string
	}{
		{258, 3, "\x00\x01\x02"}, {258, 2, "\x01\x02"}, {7, 1, "\x07"}, {0, 1, "\x00"}, {255, 1, "\xff"},
		{0x010203040506, 6, "\x01\x02\x03\x04\x05\x06"}, {0x80ff, 4, "\x00\x00\x80\xff"},
	} {
		if s, e := sum.Put(c.n, c.bytes); s != c.want || e != api.OK {
			t.Errorf("Put(%d, %d): %q, %d", c.n, c.bytes, s, e)
		}
	}
	for bytes := 1; bytes <= 6; bytes++ {
		top := 1<<(8*bytes) - 1
		if s, e := sum.Put(top, bytes); s != strings.Repeat("\xff", bytes) || e != api.OK {
			t.Errorf("Put(%d, %d): %q, %d", top, bytes, s, e)
		}
		if s, e := sum.Put(0, bytes); s != strings.Repeat("\x00", bytes) || e != api.OK {
			t.Errorf("Put(0, %d): %q, %d", bytes, s, e)
		}
		for _, n := range append([]int{top + 1}, farNumbers...) {
			if s, e := sum.Put(n, bytes); s != "" || e != api.ErrRange {
				t.Errorf("Put(%d, %d): %q, %d", n, bytes, s, e)
			}
		}
	}
	for _, bytes := range append([]int{0, 7, 8, 64}, farNumbers...) {
		if s, e := sum.Put(0, bytes); s != "" || e != api.ErrRange {
			t.Errorf("Put(0, %d): %q, %d", bytes, s, e)
		}
	}
}

// 2.1: Get, with places at both ends of s and outside.
func TestGet(t *testing.T) {
	for _, c := range []struct {
		s                string
		off, bytes, want int
	}{
		{"a\x01\x02", 1, 2, 258}, {"a\x01\x02", 0, 1, 97}, {"a\x01\x02", 2, 1, 2}, {"a\x01\x02", 0, 3, 97<<16 | 258},
		{"\xff\xff\xff\xff\xff\xff", 0, 6, 1<<48 - 1}, {"\x00\x00\x00\x00\x00\x09", 0, 6, 9}, {"\x80\x00", 0, 2, 1 << 15},
	} {
		if n, e := sum.Get(c.s, c.off, c.bytes); n != c.want || e != api.OK {
			t.Errorf("Get(%q, %d, %d): %d, %d", c.s, c.off, c.bytes, n, e)
		}
	}
	long := strings.Repeat("\x00", 2*api.MaxBytes) + "\x05"
	if n, e := sum.Get(long, len(long)-1, 1); n != 5 || e != api.OK {
		t.Errorf("Get at the end of many bytes: %d, %d", n, e)
	}
	const s = "abcdefgh"
	for bytes := 1; bytes <= 6; bytes++ {
		for _, off := range append([]int{len(s) - bytes + 1, len(s), len(s) + 1, -bytes}, farNumbers...) {
			if n, e := sum.Get(s, off, bytes); n != 0 || e != api.ErrRange {
				t.Errorf("Get(%q, %d, %d): %d, %d", s, off, bytes, n, e)
			}
		}
		if n, e := sum.Get(s[:bytes-1], 0, bytes); n != 0 || e != api.ErrRange {
			t.Errorf("Get(%q, 0, %d): %d, %d", s[:bytes-1], bytes, n, e)
		}
	}
	for _, bytes := range append([]int{0, 7, 8}, farNumbers...) {
		if n, e := sum.Get(s, 0, bytes); n != 0 || e != api.ErrRange {
			t.Errorf("Get(%q, 0, %d): %d, %d", s, bytes, n, e)
		}
	}
}

// 2.1: what was put is got again, wherever it stands.
func TestPutGet(t *testing.T) {
	for bytes := 1; bytes <= 6; bytes++ {
		for seed := range 100 {
			want := seed * 0x0305070b0d11 & (1<<(8*bytes) - 1)
			s, e := sum.Put(want, bytes)
			if len(s) != bytes || e != api.OK {
				t.Fatalf("Put(%d, %d): %q, %d", want, bytes, s, e)
			}
			if n, e := sum.Get("ab"+s+"c", 2, bytes); n != want || e != api.OK {
				t.Fatalf("Get of %d in %d bytes: %d, %d", want, bytes, n, e)
			}
		}
	}
}

// 2.2: Seal.
func TestSeal(t *testing.T) {
	for _, c := range []struct {
		s    string
		off  int
		want string
	}{
		{"\x45\x00xx\x01", 2, "\x45\x00\xb9\xff\x01"},
		{"xx", 0, "\xff\xff"},
		{"xx\x12\x34", 0, "\xed\xcb\x12\x34"},
		{"\x12\x34xx", 2, "\x12\x34\xed\xcb"},
		{"\xff\xffxx", 2, "\xff\xff\x00\x00"},
		{"xx\x01", 0, "\xfe\xff\x01"},
	} {
		if s, e := sum.Seal(c.s, c.off); s != c.want || e != api.OK {
			t.Errorf("Seal(%q, %d): %q, %d", c.s, c.off, s, e)
		}
	}
	for _, c := range []struct {
		s   string
		off int
	}{
		{"abcd", 1}, {"abcd", 3}, {"abcd", 4}, {"abcd", 6}, {"abc", 2}, {"a", 0}, {"", 0}, {"abcd", -1}, {"abcd", -2}, {"abcd", -3},
		{"abcd", math.MinInt}, {"abcd", math.MaxInt}, {"abcd", math.MaxInt - 1}, {"abcd", math.MinInt + 1},
	} {
		if s, e := sum.Seal(c.s, c.off); s != "" || e != api.ErrRange {
			t.Errorf("Seal(%q, %d): %q, %d", c.s, c.off, s, e)
		}
	}
}

// 2.2: Seal takes api.MaxBytes bytes and no more; a place that is wrong is told ahead of that.
func TestSealLong(t *testing.T) {
	full := strings.Repeat("x", api.MaxBytes)
	for _, off := range []int{0, 2, api.MaxBytes - 2} {
		s, e := sum.Seal(full, off)
		if e != api.OK || len(s) != len(full) || !sum.Whole(s) || s[:off] != full[:off] || s[off+2:] != full[off+2:] {
			t.Errorf("Seal of api.MaxBytes bytes at %d: %d", off, e)
		}
		if s, e := sum.Seal(full+"x", off); s != "" || e != api.ErrLong {
			t.Errorf("Seal of one byte more at %d: %d bytes, %d", off, len(s), e)
		}
	}
	for _, off := range []int{1, -2, api.MaxBytes, api.MaxBytes + 2} {
		if s, e := sum.Seal(full+"x", off); s != "" || e != api.ErrRange {
			t.Errorf("Seal of one byte more at %d: %d bytes, %d", off, len(s), e)
		}
	}
}

// 2.2: Pseudo, with each number at its edges.
func TestPseudo(t *testing.T) {
	for _, c := range []struct {
		from, to, proto, long int
		want                  string
	}{
		{1, 258, 6, 20, "\x00\x00\x00\x01\x00\x00\x01\x02\x00\x06\x00\x14"},
		{0, 0, 0, 0, strings.Repeat("\x00", 12)},
		{four, four, 255, two, strings.Repeat("\xff", 8) + "\x00\xff\xff\xff"},
		{0x0a000001, 0x0a000002, 1, 258, "\x0a\x00\x00\x01\x0a\x00\x00\x02\x00\x01\x01\x02"},
	} {
		if s, e := sum.Pseudo(c.from, c.to, c.proto, c.long); s != c.want || e != api.OK {
			t.Errorf("Pseudo(%d, %d, %d, %d): %q, %d", c.from, c.to, c.proto, c.long, s, e)
		}
	}
	for i, most := range []int{four, four, 255, two} {
		for _, n := range append([]int{most + 1}, farNumbers...) {
			a := [4]int{}
			a[i] = n
			if s, e := sum.Pseudo(a[0], a[1], a[2], a[3]); s != "" || e != api.ErrRange {
				t.Errorf("Pseudo%v: %q, %d", a, s, e)
			}
		}
	}
}

// 2.3: Turn.
func TestTurn(t *testing.T) {
	for _, c := range []struct{ old, was, now, want int }{
		{8717, 1, 1, 8717}, {65535, 0, 1, 65534}, {0, 65535, 0, 0}, {0, 0, 0, 0}, {65534, 1, 0, 0},
		{0, 65535, 65535, 0}, {65535, 65535, 0, 65535}, {65535, 0, 0, 0}, {10, 5, 3, 12}, {10, 3, 5, 8}, {1, 0, 5, 65531}, {65535, 65535, 65535, 0},
	} {
		if n, e := sum.Turn(c.old, c.was, c.now); n != c.want || e != api.OK {
			t.Errorf("Turn(%d, %d, %d): %d, %d", c.old, c.was, c.now, n, e)
		}
	}
	for i := range 3 {
		for _, n := range append([]int{two + 1}, farNumbers...) {
			a := [3]int{}
			a[i] = n
			if m, e := sum.Turn(a[0], a[1], a[2]); m != 0 || e != api.ErrRange {
				t.Errorf("Turn%v: %d, %d", a, m, e)
			}
		}
	}
}

// 2.4: what is sealed is whole, and differs from what it was at no other place.
func TestSealedIsWhole(t *testing.T) {
	for long := 2; long < 60; long++ {
		for _, s := range []string{bytesOf(long, long), strings.Repeat("\x00", long), strings.Repeat("\xff", long)} {
			for off := 0; off+2 <= long; off += 2 {
				r, e := sum.Seal(s, off)
				if e != api.OK || !sum.Whole(r) || len(r) != long || r[:off] != s[:off] || r[off+2:] != s[off+2:] {
					t.Fatalf("Seal(%q, %d): %q, %d", s, off, r, e)
				}
				if n, e := sum.Of(s[:off], "\x00\x00", s[off+2:]); e != api.OK || string([]byte{byte(n >> 8), byte(n)}) != r[off:off+2] {
					t.Fatalf("Seal(%q, %d): %q, but the sum is %d", s, off, r, n)
				}
				again, e := sum.Seal(r, off)
				if again != r || e != api.OK {
					t.Fatalf("sealed anew: %q, %q", r, again)
				}
			}
		}
	}
}

// 2.4: pieces at even places may be summed in any order.
func TestAnyOrder(t *testing.T) {
	for seed := range 100 {
		p := [4]string{bytesOf(seed, 2*(seed%7)), bytesOf(seed+1000, 2), bytesOf(seed+2000, 2*(seed%3)), bytesOf(seed+3000, 8)}
		want, e := sum.Of(p[:]...)
		if e != api.OK {
			t.Fatal(e)
		}
		for _, o := range [][4]int{{3, 2, 1, 0}, {1, 0, 3, 2}, {2, 0, 1, 3}, {0, 3, 1, 2}} {
			if n, e := sum.Of(p[o[0]], p[o[1]], p[o[2]], p[o[3]]); n != want || e != api.OK {
				t.Errorf("%q in the order %v: %d, not %d", p, o, n, want)
			}
		}
	}
}

// 2.4: a sum that is turned is that of the turned bytes, but that 0 and 65535 stand for one another.
func TestTurnedBytes(t *testing.T) {
	pairs := []int{0, 1, 2, 255, 256, 0x1234, 0x7fff, 0x8000, 0xfffe, 0xffff}
	for seed := range 50 {
		before, behind := bytesOf(seed, 2*(seed%5)), bytesOf(seed+100, seed%6)
		for _, was := range pairs {
			for _, now := range pairs {
				old, _ := sum.Of(before, string([]byte{byte(was >> 8), byte(was)}), behind)
				want, _ := sum.Of(before, string([]byte{byte(now >> 8), byte(now)}), behind)
				if n, e := sum.Turn(old, was, now); !alike(n, want) || e != api.OK {
					t.Fatalf("Turn(%d, %d, %d): %d, not %d", old, was, now, n, want)
				}
			}
		}
	}
}
