package ether_test

import (
	"math"
	"slices"
	"strings"
	"testing"

	"sternpost/api"
	"sternpost/ether"
)

const (
	group = 1 << 40 // the bit of an address that makes it one of a group
	full  = 1500    // the most bytes of data
)

// farNumbers are no addresses, and no types.
var farNumbers = []int{-1, -2, 1 << 48, 1<<48 + 1, math.MinInt, math.MinInt + 1, math.MaxInt, math.MaxInt - 1}

// right are frames that may be, with each field at its edges.
func right() []api.Frame {
	return []api.Frame{
		{To: api.Everyone, From: 2, Type: 0x0806},
		{To: 258, From: 2 << 40, Type: api.TypeIP, Data: "abc"},
		{To: 0, From: 0, Type: 1536},
		{To: 0, From: 0, Type: 65535},
		{To: group, From: 1, Type: api.TypeIP, Data: "\x00"},
		{To: 1, From: group - 1, Type: api.TypeIP, Data: "\xff\x00"},
		{To: 1, From: api.Everyone - group, Type: api.TypeArp, Data: "x"},
		{To: api.Everyone, From: api.Everyone - group, Type: 65535, Data: strings.Repeat("\xff", full)},
		{To: 0x010203040506, From: 0x0a0b0c0d0e0f, Type: 0x1122, Data: strings.Repeat("x", full-1)},
		{To: 5, From: 5, Type: 1537, Data: "\x00\x00\x00"},
	}
}

// wrong are frames that may not be, each for one reason.
func wrong() []api.Frame {
	fs := []api.Frame{
		{},
		{Type: 1535},
		{Type: 65536},
		{Type: 65536 + api.TypeIP},
		{From: group, Type: api.TypeIP},
		{From: group + 7, Type: api.TypeIP},
		{From: 3 << 40, Type: api.TypeIP},
		{From: api.Everyone, Type: api.TypeIP},
		{Type: api.TypeIP, Data: strings.Repeat("x", full+1)},
		{Type: api.TypeIP, Data: strings.Repeat("x", api.MaxBytes)},
	}
	for _, n := range farNumbers {
		fs = append(fs,
			api.Frame{To: n, From: 2, Type: api.TypeIP},
			api.Frame{To: 2, From: n, Type: api.TypeIP},
			api.Frame{To: 2, From: 2, Type: n})
	}
	return fs
}

// slow is a frame's bytes as the words say them, each by itself.
func slow(f api.Frame) string {
	var b []byte
	for _, field := range []struct{ n, wide int }{{f.To, 6}, {f.From, 6}, {f.Type, 2}} {
		for i := field.wide - 1; i >= 0; i-- {
			b = append(b, byte(field.n>>(8*i)))
		}
	}
	return string(b) + f.Data
}

// 3.1: Check.
func TestCheck(t *testing.T) {
	for i, f := range right() {
		if e := ether.Check(f); e != api.OK {
			t.Errorf("right %d: %d", i, e)
		}
	}
	for i, f := range wrong() {
		if e := ether.Check(f); e != api.ErrEther {
			t.Errorf("wrong %d: %d", i, e)
		}
	}
}

// 3.1: Encode.
func TestEncode(t *testing.T) {
	for _, c := range []struct {
		f    api.Frame
		want string
	}{
		{api.Frame{To: api.Everyone, From: 2, Type: 0x0806}, "\xff\xff\xff\xff\xff\xff\x00\x00\x00\x00\x00\x02\x08\x06"},
		{api.Frame{To: 258, From: 2 << 40, Type: api.TypeIP, Data: "abc"}, "\x00\x00\x00\x00\x01\x02\x02\x00\x00\x00\x00\x00\x08\x00abc"},
		{api.Frame{To: 0x010203040506, From: 0x0a0b0c0d0e0f, Type: 1536, Data: "\x00"}, "\x01\x02\x03\x04\x05\x06\x0a\x0b\x0c\x0d\x0e\x0f\x06\x00\x00"},
	} {
		if s, e := ether.Encode(c.f); s != c.want || e != api.OK {
			t.Errorf("%v: %q, %d", c.f, s, e)
		}
	}
	for i, f := range right() {
		if s, e := ether.Encode(f); s != slow(f) || e != api.OK {
			t.Errorf("right %d: %q, %d", i, s, e)
		}
	}
	for i, f := range wrong() {
		if s, e := ether.Encode(f); s != "" || e != api.ErrEther {
			t.Errorf("wrong %d: %q, %d", i, s, e)
		}
	}
}

// 3.1: Decode.
func TestDecode(t *testing.T) {
	for i, f := range right() {
		if g, e := ether.Decode(slow(f)); g != f || e != api.OK {
			t.Errorf("right %d: %v, %d", i, g, e)
		}
	}
	least := slow(api.Frame{To: 1, From: 2, Type: api.TypeIP})
	bad := []string{
		least[:12] + "\x05\xff",
		least[:12] + "\x00\x00",
		least[:12] + "\x05\xffabc",
		least[:6] + "\x01" + least[7:],
		least[:6] + "\xff" + least[7:],
		least[:6] + strings.Repeat("\xff", 6) + least[12:],
		least + strings.Repeat("x", full+1),
		least + strings.Repeat("x", 2*api.MaxBytes),
		strings.Repeat("\x00", 14),
		strings.Repeat("\xff", 14),
	}
	for n := range least {
		bad = append(bad, least[:n])
	}
	for i, s := range bad {
		if f, e := ether.Decode(s); f != (api.Frame{}) || e != api.ErrEther {
			t.Errorf("bad %d: %v, %d", i, f, e)
		}
	}
}

// 3.1: Group: one bit of an address decides.
func TestGroup(t *testing.T) {
	for _, c := range []struct {
		address int
		want    bool
	}{
		{api.Everyone, true}, {group, true}, {group + 1, true}, {3 << 40, true}, {0xff << 40, true}, {2*group - 1, true},
		{0, false}, {1, false}, {5, false}, {2 << 40, false}, {group - 1, false}, {0xfe << 40, false}, {1 << 47, false}, {api.Everyone - group, false},
	} {
		if p, e := ether.Group(c.address); p != c.want || e != api.OK {
			t.Errorf("%x: %v, %d", c.address, p, e)
		}
	}
	for bit := range 48 {
		if p, e := ether.Group(1 << bit); p != (bit == 40) || e != api.OK {
			t.Errorf("bit %d: %v, %d", bit, p, e)
		}
	}
	for _, n := range append([]int{1<<48 + group, -group}, farNumbers...) {
		if p, e := ether.Group(n); p || e != api.ErrRange {
			t.Errorf("%d: %v, %d", n, p, e)
		}
	}
}

// 3.1: For, with none, one and many addresses.
func TestFor(t *testing.T) {
	one := api.Frame{To: 258, From: 2, Type: api.TypeIP, Data: "abc"}
	all := api.Frame{To: api.Everyone, From: 2, Type: api.TypeIP}
	some := api.Frame{To: group + 5, From: 2, Type: api.TypeIP}
	none := api.Frame{To: 0, From: 0, Type: api.TypeIP}
	for i, c := range []struct {
		f    api.Frame
		mine []int
		want bool
	}{
		{one, nil, false},
		{one, []int{}, false},
		{one, []int{258}, true},
		{one, []int{258, 1}, true},
		{one, []int{1, 258}, true},
		{one, []int{1, 258, 3}, true},
		{one, []int{258, 258}, true},
		{one, []int{2}, false},
		{one, []int{1, 2, 3, api.Everyone}, false},
		{one, []int{258 + 1<<48, 258 - 1<<48}, false},
		{one, farNumbers, false},
		{one, append(slices.Clone(farNumbers), 258), true},
		{all, nil, true},
		{all, []int{7}, true},
		{all, []int{api.Everyone}, true},
		{all, farNumbers, true},
		{some, nil, false},
		{some, []int{5}, false},
		{some, []int{group + 5}, true},
		{none, nil, false},
		{none, []int{0}, true},
	} {
		if p := ether.For(c.f, c.mine...); p != c.want {
			t.Errorf("case %d: %v", i, p)
		}
	}
	many := make([]int, 3*api.MaxItems)
	many[len(many)-1] = 258
	if !ether.For(one, many...) {
		t.Error("the last of many addresses")
	}
}

// 3.1: a frame that may not be is for nobody, whatever its To is.
func TestForWrong(t *testing.T) {
	for i, f := range wrong() {
		if ether.For(f, f.To) || ether.For(f, 1, f.To, api.Everyone) {
			t.Errorf("wrong %d", i)
		}
		f.To = api.Everyone
		if ether.Check(f) != api.OK && (ether.For(f) || ether.For(f, api.Everyone)) {
			t.Errorf("wrong %d, to all", i)
		}
	}
}

// 3.1: For changes none of the addresses, nor what lies behind them.
func TestForKeepsMine(t *testing.T) {
	mine := []int{3, 1, 2, 258, 258}
	if ether.For(api.Frame{To: 258, Type: api.TypeIP}, mine[:3]...) {
		t.Error("an address behind the list's length was read")
	}
	if !slices.Equal(mine, []int{3, 1, 2, 258, 258}) {
		t.Errorf("now they are %v", mine)
	}
}

// 3.2: there and back, from frames.
func TestFrameThereAndBack(t *testing.T) {
	fs := right()
	for seed := range 500 {
		fs = append(fs, api.Frame{
			To:   seed * 0x0305070b0d11 & api.Everyone,
			From: seed * 0x11130d0b0705 & (api.Everyone - group),
			Type: 1536 + seed*8191%64000,
			Data: strings.Repeat("ab\x00\xff", seed%375) + "abc"[:seed%4],
		})
	}
	for i, f := range fs {
		s, e := ether.Encode(f)
		if e != api.OK || len(s) != 14+len(f.Data) {
			t.Fatalf("%d: Encode: %d bytes, %d", i, len(s), e)
		}
		if g, e := ether.Decode(s); g != f || e != api.OK {
			t.Fatalf("%d: %v became %v, %d", i, f, g, e)
		}
	}
}

// 3.2: there and back, from bytes: one bit that is turned makes another frame, or none.
func TestBytesThereAndBack(t *testing.T) {
	s := slow(api.Frame{To: 0x0a0b0c0d0e0f, From: 0x060504030201, Type: 0x8100, Data: "data"})
	seen := 0
	for bit := range 8 * len(s) {
		b := []byte(s)
		b[bit/8] ^= 1 << (bit % 8)
		f, e := ether.Decode(string(b))
		if e == api.ErrEther {
			continue
		}
		seen++
		if back, e := ether.Encode(f); back != string(b) || e != api.OK {
			t.Errorf("bit %d: %q became %q, %d", bit, b, back, e)
		}
	}
	// Refused are just the group's bit of From, and the highest bit of Type, without which it is 0x0100.
	if want := 8*len(s) - 2; seen != want {
		t.Errorf("%d of %d were frames", seen, want)
	}
}
