package seg_test

import (
	"math"
	"slices"
	"strings"
	"testing"

	"sternpost/api"
	"sternpost/seg"
)

const (
	two  = 1<<16 - 1 // the greatest number of two bytes
	four = 1<<32 - 1
	full = 1480 // the most data of a segment
	all  = 63   // all flags
)

// farNumbers lie in no range that this layer takes.
var farNumbers = []int{-1, -2, -256, -65536, four + 1, four + 2, 1 << 48, math.MinInt, math.MinInt + 1, math.MaxInt, math.MaxInt - 1}

// bytesOf makes long bytes that differ, and from seed to seed.
func bytesOf(seed, long int) string {
	b := make([]byte, long)
	n := uint32(seed)*2654435761 + 12345
	for i := range b {
		n = n*1664525 + 1013904223
		b[i] = byte(n >> 24)
	}
	return string(b)
}

// someOpts are options, and their bytes.
var someOpts = []struct {
	o api.Opts
	b string
}{
	{api.Opts{}, ""},
	{api.Opts{MSS: 536}, "\x02\x04\x02\x18"},
	{api.Opts{MSS: 536, SackOK: true}, "\x02\x04\x02\x18\x04\x02\x00\x00"},
	{api.Opts{Scaled: true, Scale: 14}, "\x03\x03\x0e\x00"},
	{api.Opts{Stamped: true, Stamp: four, Echo: 258}, "\x08\x0a\xff\xff\xff\xff\x00\x00\x01\x02\x00\x00"},
	{api.Opts{Sacks: []api.Range{{From: 1, To: 2}}}, "\x05\x0a\x00\x00\x00\x01\x00\x00\x00\x02\x00\x00"},
	{
		api.Opts{MSS: 1, Scaled: true, Scale: 2, SackOK: true, Stamped: true, Stamp: 3, Echo: 4, Sacks: []api.Range{{From: 5, To: 6}}},
		"\x02\x04\x00\x01\x03\x03\x02\x04\x02\x08\x0a\x00\x00\x00\x03\x00\x00\x00\x04\x05\x0a\x00\x00\x00\x05\x00\x00\x00\x06\x00\x00\x00",
	},
	{
		api.Opts{MSS: two, SackOK: true, Sacks: []api.Range{{From: 1, To: 2}, {From: 3, To: 4}, {From: 5, To: 6}, {From: four, To: 0}}},
		"\x02\x04\xff\xff\x04\x02\x05\x22\x00\x00\x00\x01\x00\x00\x00\x02\x00\x00\x00\x03\x00\x00\x00\x04\x00\x00\x00\x05\x00\x00\x00\x06\xff\xff\xff\xff\x00\x00\x00\x00",
	},
}

// optsBytes is the bytes of one of someOpts.
func optsBytes(o api.Opts) string {
	for _, x := range someOpts {
		if sameOpts(x.o, o) {
			return x.b
		}
	}
	panic("options that are none of the list")
}

// right are segments that may be, with each part at its edges.
func right() []api.Segment {
	ss := []api.Segment{
		{},
		{From: 258, To: 80, Seq: 1, Ack: 2, Flags: api.SYN + api.ACK, Window: 1024, Opts: api.Opts{MSS: 536}, Data: "abc"},
		{From: two, To: two, Seq: four, Ack: four, Flags: all, Window: two, Urgent: two},
		{From: two, To: two, Seq: four, Ack: four, Flags: all, Window: two, Urgent: two, Data: strings.Repeat("\xff", full)},
		{Data: strings.Repeat("\x00", full)}, {Data: bytesOf(1, full-1)}, {Data: bytesOf(2, full)},
		{From: 1}, {From: two}, {To: 1}, {To: two}, {Seq: 1}, {Seq: four}, {Seq: 0x01020304}, {Window: 1}, {Window: two},
		{Flags: api.ACK}, {Flags: api.ACK, Ack: 1}, {Flags: api.ACK, Ack: four}, {Flags: api.ACK, Ack: 0x05060708},
		{Flags: api.URG}, {Flags: api.URG, Urgent: 1}, {Flags: api.URG, Urgent: two},
		{Opts: api.Opts{Sacks: []api.Range{}}},
	}
	for flags := range all + 1 {
		s := api.Segment{From: 1, To: 2, Seq: 3, Flags: flags, Window: 4, Data: bytesOf(flags, flags)}
		if flags&api.ACK != 0 {
			s.Ack = 5
		}
		if flags&api.URG != 0 {
			s.Urgent = 6
		}
		ss = append(ss, s, api.Segment{Flags: flags})
	}
	for i, x := range someOpts {
		for _, long := range []int{0, 1, 2, 535, full - 1, full} {
			ss = append(ss, api.Segment{From: 40000 + i, To: 80, Seq: 7, Ack: 8, Flags: api.ACK + api.PSH, Window: 1024, Opts: x.o, Data: bytesOf(i, long)})
		}
	}
	for bit := range 32 {
		ss = append(ss, api.Segment{From: 1 << (bit % 16), Seq: 1 << bit}, api.Segment{To: 1 << (bit % 16), Ack: 1 << bit, Flags: api.ACK},
			api.Segment{Window: 1 << (bit % 16)}, api.Segment{Urgent: 1 << (bit % 16), Flags: api.URG})
	}
	return ss
}

// wrong are segments that may not be, each for one reason. None has RST, which Reset refuses for itself.
func wrong() []api.Segment {
	ss := []api.Segment{
		{From: two + 1}, {To: two + 1}, {Window: two + 1}, {Flags: api.URG, Urgent: two + 1}, {From: four}, {To: four}, {Window: four}, {Flags: api.URG, Urgent: four},
		{Flags: 64}, {Flags: 64 + api.SYN}, {Flags: 128}, {Flags: 255 - api.RST}, {Flags: 256}, {Flags: two - api.RST},
		{Ack: 1}, {Ack: four}, {Flags: all - api.ACK - api.RST, Ack: 1}, {Flags: api.URG, Ack: 1}, {Flags: api.PSH, Ack: 1}, {Flags: api.SYN, Ack: 1 << 31},
		{Urgent: 1}, {Urgent: two}, {Flags: all - api.URG - api.RST, Urgent: 1}, {Flags: api.ACK, Urgent: 1},
		{Opts: api.Opts{Scale: 1}}, {Opts: api.Opts{MSS: two + 1}}, {Opts: api.Opts{MSS: -1}}, {Opts: api.Opts{Stamp: 1}}, {Opts: api.Opts{Sacks: []api.Range{{}}}}, {Opts: api.Opts{Sacks: make([]api.Range, 99)}},
		{Opts: api.Opts{Sacks: []api.Range{{From: 1}, {From: 2}, {From: 3}, {From: 4}, {From: 5}}}},
		{Data: strings.Repeat("x", full+1)}, {Data: strings.Repeat("\x00", full+2)}, {Data: strings.Repeat("x", two)}, {Data: strings.Repeat("x", 2*api.MaxBytes)},
		{Flags: api.ACK, Opts: api.Opts{MSS: 536}, Data: strings.Repeat("x", full+1)},
	}
	for _, n := range farNumbers {
		ss = append(ss, api.Segment{From: n}, api.Segment{To: n}, api.Segment{Seq: n}, api.Segment{Ack: n}, api.Segment{Flags: api.ACK, Ack: n},
			api.Segment{Flags: n &^ api.RST}, api.Segment{Window: n}, api.Segment{Urgent: n}, api.Segment{Flags: api.URG, Urgent: n})
	}
	return ss
}

// sealed is a segment's bytes with the sum that belongs to these addresses, whatever else is wrong with them.
func sealed(from, to int, s string) string {
	b := []byte(s)
	b[16], b[17] = 0, 0
	ahead := []byte{
		byte(from >> 24), byte(from >> 16), byte(from >> 8), byte(from), byte(to >> 24), byte(to >> 16), byte(to >> 8), byte(to),
		0, 6, byte(len(b) >> 8), byte(len(b)),
	}
	n := 0
	for i, x := range append(ahead, b...) {
		n += int(x) << (8 * (1 - i%2))
	}
	for n > two {
		n = n/(two+1) + n%(two+1)
	}
	b[16], b[17] = byte((two-n)>>8), byte(two-n)
	return string(b)
}

// slow is a segment's bytes as the words say them.
func slow(from, to int, s api.Segment) string {
	o := optsBytes(s.Opts)
	b := []byte{
		byte(s.From >> 8), byte(s.From), byte(s.To >> 8), byte(s.To),
		byte(s.Seq >> 24), byte(s.Seq >> 16), byte(s.Seq >> 8), byte(s.Seq), byte(s.Ack >> 24), byte(s.Ack >> 16), byte(s.Ack >> 8), byte(s.Ack),
		byte((20 + len(o)) / 4 * 16), byte(s.Flags), byte(s.Window >> 8), byte(s.Window), 0, 0, byte(s.Urgent >> 8), byte(s.Urgent),
	}
	return sealed(from, to, string(b)+o+s.Data)
}

func sameOpts(a, b api.Opts) bool {
	return a.MSS == b.MSS && a.Scale == b.Scale && a.Stamp == b.Stamp && a.Echo == b.Echo &&
		a.Scaled == b.Scaled && a.SackOK == b.SackOK && a.Stamped == b.Stamped && slices.Equal(a.Sacks, b.Sacks)
}

// same holds segments against each other part by part.
func same(a, b api.Segment) bool {
	return a.From == b.From && a.To == b.To && a.Seq == b.Seq && a.Ack == b.Ack && a.Flags == b.Flags &&
		a.Window == b.Window && a.Urgent == b.Urgent && sameOpts(a.Opts, b.Opts) && a.Data == b.Data
}

// twin has the same parts as s, and shares no list with it.
func twin(s api.Segment) api.Segment {
	s.Opts.Sacks = append([]api.Range(nil), s.Opts.Sacks...)
	return s
}

// short is a segment without its bulk, for what a test tells.
func short(s api.Segment) api.Segment {
	s.Data = s.Data[:min(8, len(s.Data))]
	return s
}

// refused fails the test unless what was answered is nothing, beside that error.
func refused(t *testing.T, s api.Segment, e, want api.Code, what ...any) {
	t.Helper()
	if !same(s, api.Segment{}) || e != want {
		t.Errorf("%v: %v, %d, not %d", what, short(s), e, want)
	}
}

// 8.1: Check.
func TestCheck(t *testing.T) {
	for i, s := range right() {
		if e := seg.Check(s); e != api.OK {
			t.Errorf("right %d: %v: %d", i, short(s), e)
		}
	}
	for i, s := range wrong() {
		if e := seg.Check(s); e != api.ErrSeg {
			t.Errorf("wrong %d: %v: %d", i, short(s), e)
		}
	}
}

// 8.1: Encode.
func TestEncode(t *testing.T) {
	for i, c := range []struct {
		from, to int
		s        api.Segment
		want     string
	}{
		{0, 0, api.Segment{}, "\x00\x00\x00\x00\x00\x00\x00\x00\x00\x00\x00\x00\x50\x00\x00\x00\xaf\xe5\x00\x00"},
		{four, four, api.Segment{}, "\x00\x00\x00\x00\x00\x00\x00\x00\x00\x00\x00\x00\x50\x00\x00\x00\xaf\xe5\x00\x00"},
		{
			10, 11, api.Segment{From: 258, To: 80, Seq: 1, Ack: 2, Flags: api.SYN + api.ACK, Window: 1024, Opts: api.Opts{MSS: 536}, Data: "abc"},
			"\x01\x02\x00\x50\x00\x00\x00\x01\x00\x00\x00\x02\x60\x12\x04\x00\xd1\xe3\x00\x00\x02\x04\x02\x18abc",
		},
		{
			0x0a000001, 0x0a000002, api.Segment{From: 0x1234, To: 0x5678, Seq: 0x01020304, Ack: 0x05060708, Flags: all, Window: 0x090a, Urgent: 0x0b0c, Data: "\xff"},
			"\x12\x34\x56\x78\x01\x02\x03\x04\x05\x06\x07\x08\x50\x3f\x09\x0a\x0f\xcb\x0b\x0c\xff",
		},
	} {
		if b, e := seg.Encode(c.from, c.to, c.s); b != c.want || e != api.OK {
			t.Errorf("case %d: %q, %d", i, b, e)
		}
	}
	for i, s := range right() {
		for _, x := range [][2]int{{0, 0}, {10, 11}, {four, four}, {0, four}, {four, 0}, {0xc0a80001, 0x7f000001}} {
			if b, e := seg.Encode(x[0], x[1], s); b != slow(x[0], x[1], s) || e != api.OK {
				t.Errorf("right %d: %v: %d bytes, %d", i, short(s), len(b), e)
			}
		}
	}
	for i, s := range wrong() {
		if b, e := seg.Encode(10, 11, s); b != "" || e != api.ErrSeg {
			t.Errorf("wrong %d: %v: %d bytes, %d", i, short(s), len(b), e)
		}
	}
}

// 8.1: addresses are looked at ahead of the segment.
func TestEncodeAddresses(t *testing.T) {
	for _, n := range farNumbers {
		for _, x := range [][2]int{{n, 11}, {10, n}, {n, n}, {n, four}, {0, n}} {
			for _, s := range []api.Segment{{}, {From: 1, Data: "abc"}, {From: -1}, {Data: strings.Repeat("x", full+1)}} {
				if b, e := seg.Encode(x[0], x[1], s); b != "" || e != api.ErrRange {
					t.Errorf("%v: %q, %d", x, b, e)
				}
			}
		}
	}
}

// 8.1: the longest segment has 1540 bytes.
func TestLongest(t *testing.T) {
	s := api.Segment{Flags: api.ACK, Opts: someOpts[len(someOpts)-1].o, Data: bytesOf(1, full)}
	b, e := seg.Encode(10, 11, s)
	if len(b) != 1540 || e != api.OK || b[12] != 0xf0 {
		t.Fatalf("%d bytes, %d", len(b), e)
	}
	if got, e := seg.Decode(10, 11, b); !same(got, s) || e != api.OK {
		t.Errorf("%v, %d", short(got), e)
	}
}

// 8.1: Length, of segments that may not be, too.
func TestLength(t *testing.T) {
	for flags := range all + 1 {
		for _, long := range []int{0, 1, 2, full, full + 1, 2 * api.MaxBytes} {
			want := long
			if flags&2 != 0 {
				want++
			}
			if flags&1 != 0 {
				want++
			}
			s := api.Segment{Seq: 9, Ack: 9, Flags: flags, Window: 9, Urgent: 9, Opts: api.Opts{MSS: 9}, Data: strings.Repeat("x", long)}
			if n := seg.Length(s); n != want {
				t.Errorf("flags %d, %d bytes: %d, not %d", flags, long, n, want)
			}
		}
	}
	for _, c := range []struct{ flags, want int }{{64, 0}, {64 + api.SYN, 1}, {math.MinInt, 0}, {-1, 2}, {math.MaxInt, 2}, {-2, 1}} {
		if n := seg.Length(api.Segment{Flags: c.flags}); n != c.want {
			t.Errorf("flags %d: %d", c.flags, n)
		}
	}
}

// 8.1: Has asks for all of the flags.
func TestHas(t *testing.T) {
	for set := range all + 1 {
		for flags := range all + 1 {
			want := true
			for bit := range 6 {
				if flags>>bit&1 == 1 && set>>bit&1 == 0 {
					want = false
				}
			}
			if got := seg.Has(api.Segment{Flags: set}, flags); got != want {
				t.Errorf("of %d all of %d: %v", set, flags, got)
			}
		}
	}
	for _, c := range []struct {
		set, flags int
		want       bool
	}{{all, 64, false}, {64, 64, true}, {64, api.FIN, false}, {all, -1, false}, {-1, -1, true}, {-1, all, true}, {0, math.MinInt, false}, {math.MaxInt, all, true}, {math.MinInt, 0, true}} {
		if got := seg.Has(api.Segment{Flags: c.set}, c.flags); got != c.want {
			t.Errorf("of %d all of %d: %v", c.set, c.flags, got)
		}
	}
	for i, flag := range []int{api.FIN, api.SYN, api.RST, api.PSH, api.ACK, api.URG} {
		if !seg.Has(api.Segment{Flags: 1 << i}, flag) || seg.Has(api.Segment{Flags: all - 1<<i}, flag) {
			t.Errorf("flag %d", flag)
		}
	}
}

// 8.1: Same, of segments that differ in one part, and of some that may not be.
func TestSame(t *testing.T) {
	s := api.Segment{From: 1, To: 2, Seq: 3, Ack: 4, Flags: api.ACK + api.URG, Window: 5, Urgent: 6, Opts: api.Opts{MSS: 7, SackOK: true, Sacks: []api.Range{{From: 8, To: 9}}}, Data: "abc"}
	if !seg.Same(s, s) || !seg.Same(s, twin(s)) || !seg.Same(twin(s), s) {
		t.Error("the same")
	}
	for i, change := range []func(x *api.Segment){
		func(x *api.Segment) { x.From = 2 }, func(x *api.Segment) { x.To = 1 }, func(x *api.Segment) { x.From, x.To = x.To, x.From },
		func(x *api.Segment) { x.Seq = 4 }, func(x *api.Segment) { x.Ack = 3 }, func(x *api.Segment) { x.Seq, x.Ack = x.Ack, x.Seq },
		func(x *api.Segment) { x.Flags = api.ACK }, func(x *api.Segment) { x.Flags += api.PSH }, func(x *api.Segment) { x.Window = 6 }, func(x *api.Segment) { x.Urgent = 5 },
		func(x *api.Segment) { x.Window, x.Urgent = x.Urgent, x.Window },
		func(x *api.Segment) { x.Opts = api.Opts{} }, func(x *api.Segment) { x.Opts.MSS = 0 }, func(x *api.Segment) { x.Opts.SackOK = false }, func(x *api.Segment) { x.Opts.Scaled = true },
		func(x *api.Segment) { x.Opts.Stamped = true }, func(x *api.Segment) { x.Opts.Sacks = nil }, func(x *api.Segment) { x.Opts.Sacks[0].To = 10 },
		func(x *api.Segment) { x.Data = "" }, func(x *api.Segment) { x.Data = "abd" }, func(x *api.Segment) { x.Data = "ab" }, func(x *api.Segment) { x.Data = "abc\x00" },
	} {
		x := twin(s)
		change(&x)
		if seg.Same(s, x) || seg.Same(x, s) || !seg.Same(x, twin(x)) {
			t.Errorf("change %d: %v", i, x)
		}
	}
	if !seg.Same(api.Segment{}, api.Segment{Opts: api.Opts{Sacks: []api.Range{}}}) {
		t.Error("nil and empty")
	}
	for i, x := range wrong() {
		if !seg.Same(x, twin(x)) || seg.Same(x, api.Segment{Flags: api.SYN, Seq: 5}) {
			t.Errorf("wrong %d: %v", i, short(x))
		}
	}
}

// 8.2: Decode.
func TestDecode(t *testing.T) {
	for i, s := range right() {
		for _, x := range [][2]int{{0, 0}, {10, 11}, {four, four}, {0xc0a80001, 0x7f000001}} {
			if got, e := seg.Decode(x[0], x[1], slow(x[0], x[1], s)); !same(got, s) || e != api.OK {
				t.Errorf("right %d: %v: %v, %d", i, short(s), short(got), e)
			}
		}
	}
}

// 8.2: addresses are looked at ahead of the bytes.
func TestDecodeAddresses(t *testing.T) {
	good := slow(10, 11, api.Segment{Data: "abc"})
	for _, n := range farNumbers {
		for _, b := range []string{good, "", good[:19], good + "x", strings.Repeat("x", 1541)} {
			for _, x := range [][2]int{{n, 11}, {10, n}, {n, n}, {0, n}, {n, four}} {
				s, e := seg.Decode(x[0], x[1], b)
				refused(t, s, e, api.ErrRange, x, len(b))
			}
		}
	}
}

// 8.2: Decode refuses what is too short or too long, whatever its sum is.
func TestDecodeLengths(t *testing.T) {
	good := slow(10, 11, api.Segment{Flags: api.ACK, Ack: 9, Data: "abc"})
	for n := range 20 {
		for _, b := range []string{good[:n], strings.Repeat("\x00", n), strings.Repeat("\x50", n), strings.Repeat("\xff", n)} {
			s, e := seg.Decode(10, 11, b)
			refused(t, s, e, api.ErrSeg, "bytes", n)
		}
	}
	for _, n := range []int{1541, 1542, 1600, two, two + 1, 3 * api.MaxBytes} {
		for _, b := range []string{good + strings.Repeat("\x00", n-len(good)), sealed(10, 11, good+strings.Repeat("x", n-len(good))), strings.Repeat("\xff", n)} {
			s, e := seg.Decode(10, 11, b)
			refused(t, s, e, api.ErrSeg, "bytes", n)
		}
	}
	s, e := seg.Decode(10, 11, good+strings.Repeat("x", 1540-len(good)))
	refused(t, s, e, api.ErrSum, "1540 bytes")
	if s, e := seg.Decode(10, 11, slow(10, 11, api.Segment{})); !same(s, api.Segment{}) || e != api.OK {
		t.Errorf("20 bytes: %v, %d", s, e)
	}
}

// 8.2: a header has from 20 bytes on to as many as there are; that is asked ahead of the sum.
func TestDecodeHeader(t *testing.T) {
	for long := 20; long <= 80; long++ {
		for head := range 16 {
			// Bytes 1 are options that say nothing.
			b := []byte(strings.Repeat("\x00", 20) + strings.Repeat("\x01", long-20))
			b[12] = byte(head << 4)
			good := sealed(10, 11, string(b))
			bad := good[:17] + string([]byte{good[17] ^ 1}) + good[18:]
			s, e := seg.Decode(10, 11, good)
			if head < 5 || 4*head > long {
				refused(t, s, e, api.ErrSeg, long, head)
				s, e = seg.Decode(10, 11, bad)
				refused(t, s, e, api.ErrSeg, long, head, "with a wrong sum")
				continue
			}
			if want := (api.Segment{Data: good[4*head:]}); !same(s, want) || e != api.OK {
				t.Errorf("%d bytes, header %d: %v, %d", long, 4*head, s, e)
			}
			s, e = seg.Decode(10, 11, bad)
			refused(t, s, e, api.ErrSum, long, head)
		}
	}
}

// 8.2: Decode refuses a segment of which one bit is another one, in its data too, and one that is cut off or has more behind it.
func TestDecodeSum(t *testing.T) {
	for _, s := range []api.Segment{
		{From: 258, To: 80, Seq: 1, Ack: 2, Flags: api.SYN + api.ACK, Window: 1024, Opts: someOpts[2].o, Data: "abc"},
		{From: two, To: two, Seq: four, Ack: four, Flags: all, Window: two, Urgent: two, Data: "\xff\xff"}, {}, {Data: bytesOf(1, 100)},
	} {
		b := slow(10, 11, s)
		for bit := range 8 * len(b) {
			c := []byte(b)
			c[bit/8] ^= 1 << (bit % 8)
			want := api.ErrSum
			if head := int(c[12] >> 4 * 4); head < 20 || head > len(c) {
				want = api.ErrSeg
			}
			got, e := seg.Decode(10, 11, string(c))
			refused(t, got, e, want, "bit", bit)
		}
		for _, c := range []string{b + "\x00", b + "\x00\x00", b + "x"} { // how long it is, is summed too
			got, e := seg.Decode(10, 11, c)
			refused(t, got, e, api.ErrSum, "with more behind")
		}
		if len(s.Data) > 0 {
			got, e := seg.Decode(10, 11, b[:len(b)-1])
			refused(t, got, e, api.ErrSum, "cut off")
		}
	}
}

// 8.2: a sum of 65535 stands for 0 where one reads.
func TestDecodeOtherZero(t *testing.T) {
	// All else adds up to 65535: 6 and 22 of the pseudo header, 0x5000, and the rest as Window.
	want := api.Segment{Window: two - 6 - 22 - 0x5000, Data: "\x00\x00"}
	b := slow(0, 0, want)
	if b[16:18] != "\x00\x00" {
		t.Fatalf("%q", b)
	}
	for _, x := range []string{"\x00\x00", "\xff\xff"} {
		if s, e := seg.Decode(0, 0, b[:16]+x+b[18:]); !same(s, want) || e != api.OK {
			t.Errorf("%q: %v, %d", x, s, e)
		}
	}
}

// headed is the bytes between 10 and 11 of a header of that length's byte and those flags, with options and data behind it.
func headed(long, flags byte, rest string) string {
	b := []byte(strings.Repeat("\x00", 20) + rest)
	b[12], b[13] = long, flags
	return sealed(10, 11, string(b))
}

// 8.2: options that are none are told as such, behind the sum, and ahead of what else is wrong with the segment.
func TestDecodeOptions(t *testing.T) {
	for i, o := range []string{
		"\x02\x04\x00\x00", "\x02\x03\x01\x00", "\x02\x05\x01\x01", "\x03\x03\x0f\x00", "\x04\x02\x04\x02", "\x05\x02\x00\x00", "\x01\x01\x01\x02", "\x06\x00\x00\x00", "\x06\x05\x00\x00",
		"\x05\x0a\x00\x00\x00\x01\x00\x00\x00\x01\x00\x00", "\x02\x04\x00\x01\x02\x04\x00\x01",
	} {
		long := byte((20 + len(o)) / 4 << 4)
		for _, b := range []string{headed(long, 0, o), headed(long|1, 0, o), headed(long|15, 0xff, o+"abc"), headed(long, 64, o), headed(long, 0, o+strings.Repeat("x", 1540-20-len(o)))} {
			s, e := seg.Decode(10, 11, b)
			refused(t, s, e, api.ErrOpts, "options", i)
			s, e = seg.Decode(10, 11, b[:1]+"\x01"+b[2:])
			refused(t, s, e, api.ErrSum, "options", i, "with a wrong sum")
		}
	}
	// An option that goes on beyond the header is none, though bytes stand there.
	s, e := seg.Decode(10, 11, headed(6<<4, 0, "\x01\x01\x02\x04\x00\x01"))
	refused(t, s, e, api.ErrOpts, "into the data")
	for i, c := range []struct {
		o    string
		want api.Opts
	}{
		{"\x04\x02\x01\x01", api.Opts{SackOK: true}}, {"\x01\x04\x02\x00", api.Opts{SackOK: true}}, {"\x00\x02\x04\x00", api.Opts{}}, {"\x06\x04xx", api.Opts{}},
		{"\x04\x02\x02\x04\x00\x01\x00\x00", api.Opts{SackOK: true, MSS: 1}}, {"\x05\x0a\x00\x00\x00\x01\x00\x00\x00\x02\x01\x01", api.Opts{Sacks: []api.Range{{From: 1, To: 2}}}},
	} {
		got, e := seg.Decode(10, 11, headed(byte((20+len(c.o))/4<<4), 0, c.o+"abc"))
		if !same(got, api.Segment{Opts: c.want, Data: "abc"}) || e != api.OK {
			t.Errorf("case %d: %v, %d", i, got, e)
		}
	}
}

// 8.2: the lower four bits behind the header's length, and the two that are no flags, must not be set.
func TestDecodeBits(t *testing.T) {
	for low := range 16 {
		for flags := range 256 {
			s, e := seg.Decode(10, 11, headed(byte(5<<4|low), byte(flags), "abc"))
			if low != 0 || flags > all {
				refused(t, s, e, api.ErrSeg, low, flags)
			} else if !same(s, api.Segment{Flags: flags, Data: "abc"}) || e != api.OK {
				t.Errorf("flags %d: %v, %d", flags, s, e)
			}
		}
	}
}

// 8.2: a segment that may not be is refused, though its sum is right.
func TestDecodeMayNotBe(t *testing.T) {
	for flags := range all + 1 {
		for place, flag := range map[int]int{8: api.ACK, 9: api.ACK, 10: api.ACK, 11: api.ACK, 18: api.URG, 19: api.URG} {
			b := []byte(headed(5<<4, byte(flags), "abc"))
			b[place] = 1
			s, e := seg.Decode(10, 11, sealed(10, 11, string(b)))
			if flags&flag == 0 {
				refused(t, s, e, api.ErrSeg, flags, place)
			} else if e != api.OK || s.Ack+s.Urgent == 0 {
				t.Errorf("flags %d, place %d: %v, %d", flags, place, s, e)
			}
		}
	}
	for options := 0; options <= 40; options += 4 {
		for long := full - 2; long <= 1520-options; long++ {
			data := bytesOf(long, long)
			s, e := seg.Decode(10, 11, headed(byte((20+options)/4<<4), 0, strings.Repeat("\x01", options)+data))
			if long > full {
				refused(t, s, e, api.ErrSeg, options, long)
			} else if !same(s, api.Segment{Data: data}) || e != api.OK {
				t.Errorf("%d bytes of options, %d of data: %v, %d", options, long, short(s), e)
			}
		}
	}
}

// 8.2: Decode tells something of whatever it is given.
func TestDecodeAnything(t *testing.T) {
	codes := map[api.Code]int{}
	for seed := range 40000 {
		b := bytesOf(seed, seed%70)
		if len(b) >= 20 && seed%2 == 0 {
			b = b[:12] + string([]byte{b[12] &^ 15}) + b[13:]
			b = sealed(10, 11, b)
		}
		s, e := seg.Decode(10, 11, b)
		codes[e]++
		if e == api.OK && seg.Check(s) != api.OK || e != api.OK && !same(s, api.Segment{}) {
			t.Errorf("%q: %v, %d", b, s, e)
		}
	}
	for _, e := range []api.Code{api.OK, api.ErrSeg, api.ErrSum, api.ErrOpts} {
		if codes[e] == 0 {
			t.Errorf("%d never came", e)
		}
	}
	if len(codes) != 4 {
		t.Errorf("%v", codes)
	}
}

// 8.2: answers share no list with one another.
func TestDecodeNewMemory(t *testing.T) {
	b := slow(10, 11, api.Segment{Opts: someOpts[7].o})
	one, _ := seg.Decode(10, 11, b)
	other, _ := seg.Decode(10, 11, b)
	one.Opts.Sacks[0] = api.Range{From: 77, To: 78}
	_ = append(one.Opts.Sacks[:1], api.Range{From: 79, To: 80})
	if again, _ := seg.Decode(10, 11, b); !sameOpts(other.Opts, someOpts[7].o) || !sameOpts(again.Opts, someOpts[7].o) {
		t.Errorf("%v, %v", other, again)
	}
}

// 8.1 and 8.3: what is handed in stays as it is, and what lies behind a list's length is not looked at.
func TestUnchanged(t *testing.T) {
	r := []api.Range{{From: 1, To: 2}, {From: 3, To: 3}, {From: -1}}
	s := api.Segment{From: 1, To: 2, Seq: 3, Opts: api.Opts{Sacks: r[:1]}}
	b, e := seg.Encode(10, 11, s)
	if b != slow(10, 11, api.Segment{From: 1, To: 2, Seq: 3, Opts: someOpts[5].o}) || e != api.OK || seg.Check(s) != api.OK {
		t.Errorf("%q, %d", b, e)
	}
	if _, ok := seg.Reset(s); !ok || !seg.Same(s, api.Segment{From: 1, To: 2, Seq: 3, Opts: someOpts[5].o}) {
		t.Error("reset")
	}
	if !slices.Equal(r, []api.Range{{From: 1, To: 2}, {From: 3, To: 3}, {From: -1}}) {
		t.Errorf("%v", r)
	}
}

// 8.3: Reset.
func TestReset(t *testing.T) {
	for i, c := range []struct{ s, want api.Segment }{
		{api.Segment{Flags: api.SYN, Seq: 7}, api.Segment{Flags: api.RST + api.ACK, Ack: 8}},
		{api.Segment{}, api.Segment{Flags: api.RST + api.ACK}},
		{api.Segment{From: 1, To: 2, Seq: 9}, api.Segment{From: 2, To: 1, Flags: api.RST + api.ACK, Ack: 9}},
		{api.Segment{From: two, Seq: 9, Data: "abc"}, api.Segment{To: two, Flags: api.RST + api.ACK, Ack: 12}},
		{api.Segment{Flags: api.FIN, Seq: 7, Data: "a"}, api.Segment{Flags: api.RST + api.ACK, Ack: 9}},
		{api.Segment{Flags: api.SYN + api.FIN + api.PSH, Seq: four, Data: "ab"}, api.Segment{Flags: api.RST + api.ACK, Ack: 3}},
		{api.Segment{Flags: api.SYN, Seq: four}, api.Segment{Flags: api.RST + api.ACK, Ack: 0}},
		{api.Segment{Seq: four, Data: strings.Repeat("x", full)}, api.Segment{Flags: api.RST + api.ACK, Ack: full - 1}},
		{api.Segment{Seq: four}, api.Segment{Flags: api.RST + api.ACK, Ack: four}},
		{api.Segment{Flags: api.ACK, Ack: 9, Seq: 5}, api.Segment{Flags: api.RST, Seq: 9}},
		{api.Segment{Flags: api.ACK, Seq: 5}, api.Segment{Flags: api.RST}},
		{api.Segment{Flags: api.ACK, Ack: four, Seq: 5, Data: "abc"}, api.Segment{Flags: api.RST, Seq: four}},
		{api.Segment{From: 3, To: 4, Flags: all - api.RST, Ack: 6, Seq: 5, Window: 7, Urgent: 8, Opts: someOpts[6].o, Data: "abc"}, api.Segment{From: 4, To: 3, Flags: api.RST, Seq: 6}},
		{api.Segment{From: 3, To: 4, Flags: api.URG + api.SYN, Seq: 5, Window: 7, Urgent: 8, Opts: someOpts[7].o, Data: "abc"}, api.Segment{From: 4, To: 3, Flags: api.RST + api.ACK, Ack: 9}},
	} {
		if r, ok := seg.Reset(c.s); !ok || !same(r, c.want) {
			t.Errorf("case %d: %v, %v", i, r, ok)
		}
	}
	for i, s := range right() {
		want := api.Segment{From: s.To, To: s.From, Flags: api.RST, Seq: s.Ack}
		if s.Flags&api.ACK == 0 {
			want.Flags, want.Seq, want.Ack = api.RST+api.ACK, 0, (s.Seq+len(s.Data)+s.Flags&1+s.Flags>>1&1)%(1<<32)
		}
		if s.Flags&api.RST != 0 {
			want = api.Segment{}
		}
		if r, ok := seg.Reset(s); ok != (s.Flags&api.RST == 0) || !same(r, want) {
			t.Errorf("right %d: %v: %v, %v", i, short(s), r, ok)
		}
	}
}

// 8.3: what may not be is not answered, nor is a reset, whatever else it has.
func TestResetOfNone(t *testing.T) {
	ss := wrong()
	for flags := range all + 1 {
		if flags&api.RST != 0 {
			ss = append(ss, api.Segment{From: 1, To: 2, Seq: 3, Flags: flags}, api.Segment{Flags: flags, Data: "abc"})
		}
	}
	for i, s := range ss {
		if r, ok := seg.Reset(s); ok || !same(r, api.Segment{}) {
			t.Errorf("case %d: %v: %v, %v", i, short(s), r, ok)
		}
	}
}

// 8.3: a reset may be, goes over the wire, and is answered by none.
func TestResetOnce(t *testing.T) {
	for i, s := range right() {
		r, ok := seg.Reset(s)
		if !ok {
			continue
		}
		b, e := seg.Encode(11, 10, r)
		back, d := seg.Decode(11, 10, b)
		if len(b) != 20 || e != api.OK || d != api.OK || !seg.Same(back, r) || seg.Length(r) != 0 {
			t.Errorf("right %d: %v, %d, %d", i, r, e, d)
		}
		if again, ok := seg.Reset(back); ok || !same(again, api.Segment{}) {
			t.Errorf("right %d: %v is answered", i, r)
		}
	}
}

// 8.4: there and back.
func TestThereAndBack(t *testing.T) {
	ss := right()
	for seed := range 500 {
		b := bytesOf(seed, 16)
		s := api.Segment{
			From: int(b[0])<<8 + int(b[1]), To: int(b[2])<<8 + int(b[3]), Seq: int(b[4])<<24 + int(b[5]), Flags: int(b[6]) % (all + 1), Window: int(b[7])<<8 + int(b[8]),
			Opts: someOpts[seed%len(someOpts)].o, Data: bytesOf(seed, 3*seed%(full+1)),
		}
		if s.Flags&api.ACK != 0 {
			s.Ack = int(b[9])<<24 + int(b[10])
		}
		if s.Flags&api.URG != 0 {
			s.Urgent = int(b[11])<<8 + int(b[12])
		}
		ss = append(ss, s)
	}
	seen := map[string]api.Segment{}
	for i, s := range ss {
		from, to := i*0x01234567%(four+1), i*0x0fedcba9%(four+1)
		b, e := seg.Encode(from, to, s)
		if e != api.OK || len(b) != 20+len(optsBytes(s.Opts))+len(s.Data) {
			t.Fatalf("right %d: %d bytes, %d", i, len(b), e)
		}
		back, e := seg.Decode(from, to, b)
		if !seg.Same(back, s) || !same(back, s) || e != api.OK {
			t.Errorf("%v came back as %v, %d", short(s), short(back), e)
		}
		if again, e := seg.Encode(from, to, back); again != b || e != api.OK {
			t.Errorf("%v came back as other bytes, %d", short(s), e)
		}
		b, _ = seg.Encode(10, 11, s)
		if other, there := seen[b]; there && !same(other, s) {
			t.Errorf("%v and %v have the same bytes", short(s), short(other))
		}
		seen[b] = s
	}
}

// 8.4: a segment of other addresses is none. (The sum can't tell addresses that add up to the same, as 10, 11 and 11, 10 do.)
func TestOtherAddresses(t *testing.T) {
	for i, s := range right() {
		b, _ := seg.Encode(0x0a000001, 0x0a000002, s)
		for bit := range 32 {
			got, e := seg.Decode(0x0a000001^1<<bit, 0x0a000002, b)
			refused(t, got, e, api.ErrSum, i, "from bit", bit)
			got, e = seg.Decode(0x0a000001, 0x0a000002^1<<bit, b)
			refused(t, got, e, api.ErrSum, i, "to bit", bit)
		}
		if got, e := seg.Decode(0x0a000002, 0x0a000001, b); !same(got, s) || e != api.OK {
			t.Errorf("right %d: %v, %d", i, short(got), e)
		}
	}
}
