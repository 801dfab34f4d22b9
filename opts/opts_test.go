package opts_test

import (
	"math"
	"slices"
	"strings"
	"testing"

	"sternpost/api"
	"sternpost/opts"
)

const (
	two  = 1<<16 - 1 // the greatest number of two bytes
	four = 1<<32 - 1
)

// farNumbers lie in no range that this layer takes.
var farNumbers = []int{-1, -2, -256, four + 1, four + 2, 1 << 48, math.MinInt, math.MinInt + 1, math.MaxInt, math.MaxInt - 1}

// bytesOf makes long bytes that differ, and from seed to seed.
func bytesOf(seed, long int) []byte {
	b := make([]byte, long)
	n := uint32(seed)*2654435761 + 12345
	for i := range b {
		n = n*1664525 + 1013904223
		b[i] = byte(n >> 24)
	}
	return b
}

// ranges are n of them, that differ, and from seed to seed.
func ranges(seed, n int) []api.Range {
	var r []api.Range
	for i := range n {
		b := bytesOf(100*seed+i, 8)
		from, to := number(b[:4]), number(b[4:])
		if from == to {
			to = from ^ 1
		}
		r = append(r, api.Range{From: from, To: to})
	}
	return r
}

func number(b []byte) int {
	n := 0
	for _, x := range b {
		n = n*256 + int(x)
	}
	return n
}

// right are options that may be, with each part at its edges, and all that go together.
func right() []api.Opts {
	os := []api.Opts{
		{}, {Sacks: []api.Range{}},
		{MSS: 1}, {MSS: 255}, {MSS: 256}, {MSS: 536}, {MSS: 1460}, {MSS: two - 1}, {MSS: two},
		{SackOK: true},
		{Stamped: true}, {Stamped: true, Stamp: 1}, {Stamped: true, Echo: 1}, {Stamped: true, Stamp: four, Echo: four}, {Stamped: true, Stamp: 0x01020304, Echo: 0x05060708},
		{Sacks: []api.Range{{From: 0, To: 1}}}, {Sacks: []api.Range{{From: 1, To: 0}}}, {Sacks: []api.Range{{From: four, To: 0}}}, {Sacks: []api.Range{{From: 0, To: four}}},
		{Sacks: []api.Range{{From: 1, To: 2}, {From: 1, To: 2}}}, {Sacks: []api.Range{{From: 3, To: 4}, {From: 1, To: 2}}},
	}
	for scale := range 15 {
		os = append(os, api.Opts{Scaled: true, Scale: scale})
	}
	for bits := range 16 {
		for n := range 5 {
			o := api.Opts{Sacks: ranges(bits, n)}
			if bits&1 != 0 {
				o.MSS = 536 + n
			}
			if bits&2 != 0 {
				o.Scaled, o.Scale = true, n
			}
			if bits&4 != 0 {
				o.SackOK = true
			}
			if bits&8 != 0 {
				o.Stamped, o.Stamp, o.Echo = true, bits, n
			}
			if len(raw(o)) <= 40 {
				os = append(os, o)
			}
		}
	}
	return os
}

// wrong are options that may not be, each for one reason.
func wrong() []api.Opts {
	os := []api.Opts{
		{MSS: two + 1}, {MSS: four}, {Scaled: true, Scale: 15}, {Scaled: true, Scale: 16}, {Scaled: true, Scale: 255},
		{Scale: 1}, {Scale: 14}, {Stamp: 1}, {Echo: 1}, {Stamp: 1, Echo: 1}, {Stamp: four}, {Echo: four},
		{Sacks: []api.Range{{}}}, {Sacks: []api.Range{{From: 1, To: 1}}}, {Sacks: []api.Range{{From: four, To: four}}},
		{Sacks: []api.Range{{From: 1, To: 2}, {From: 3, To: 3}}}, {Sacks: append(ranges(1, 3), api.Range{From: 9, To: 9})},
		{Sacks: ranges(1, 5)}, {Sacks: ranges(1, 6)}, {Sacks: ranges(1, 1000)}, {Stamped: true, Sacks: ranges(1, 4)},
		{MSS: 1, Scaled: true, Sacks: ranges(1, 4)}, {MSS: 1, Scaled: true, SackOK: true, Stamped: true, Sacks: ranges(1, 3)},
		{MSS: 1, SackOK: true, Stamped: true, Sacks: ranges(1, 3)}, {SackOK: true, Sacks: ranges(1, 5)},
		{MSS: 1, Scaled: true, SackOK: true, Sacks: ranges(1, 4)}, {Scaled: true, SackOK: true, Stamped: true, Sacks: ranges(1, 3)},
	}
	for _, n := range farNumbers {
		os = append(os, api.Opts{MSS: n}, api.Opts{Scale: n}, api.Opts{Scaled: true, Scale: n}, api.Opts{Stamp: n}, api.Opts{Echo: n},
			api.Opts{Stamped: true, Stamp: n}, api.Opts{Stamped: true, Echo: n},
			api.Opts{Sacks: []api.Range{{From: n, To: 1}}}, api.Opts{Sacks: []api.Range{{From: 1, To: n}}}, api.Opts{Sacks: append(ranges(1, 2), api.Range{From: n, To: 1})})
	}
	return os
}

// raw is the options' bytes as the words say them, but for the bytes 0 at their end.
func raw(o api.Opts) []byte {
	seq := func(n int) []byte { return []byte{byte(n >> 24), byte(n >> 16), byte(n >> 8), byte(n)} }
	var b []byte
	if o.MSS != 0 {
		b = append(b, 2, 4, byte(o.MSS>>8), byte(o.MSS))
	}
	if o.Scaled {
		b = append(b, 3, 3, byte(o.Scale))
	}
	if o.SackOK {
		b = append(b, 4, 2)
	}
	if o.Stamped {
		b = append(append(append(b, 8, 10), seq(o.Stamp)...), seq(o.Echo)...)
	}
	if len(o.Sacks) > 0 {
		b = append(b, 5, byte(2+8*len(o.Sacks)))
		for _, r := range o.Sacks {
			b = append(append(b, seq(r.From)...), seq(r.To)...)
		}
	}
	return b
}

// slow is all of the options' bytes.
func slow(o api.Opts) string {
	b := raw(o)
	for len(b)%4 != 0 {
		b = append(b, 0)
	}
	return string(b)
}

// twin has the same parts as o, and shares no memory with it.
func twin(o api.Opts) api.Opts {
	var r []api.Range
	for _, x := range o.Sacks {
		r = append(r, x)
	}
	o.Sacks = r
	return o
}

// same holds options against each other part by part.
func same(a, b api.Opts) bool {
	return a.MSS == b.MSS && a.Scale == b.Scale && a.Stamp == b.Stamp && a.Echo == b.Echo &&
		a.Scaled == b.Scaled && a.SackOK == b.SackOK && a.Stamped == b.Stamped && slices.Equal(a.Sacks, b.Sacks)
}

// 7.1: Check.
func TestCheck(t *testing.T) {
	for i, o := range right() {
		if e := opts.Check(o); e != api.OK {
			t.Errorf("right %d: %v: %d", i, o, e)
		}
	}
	for i, o := range wrong() {
		if e := opts.Check(o); e != api.ErrOpts {
			t.Errorf("wrong %d: %v: %d", i, o, e)
		}
	}
}

// 7.1: Encode.
func TestEncode(t *testing.T) {
	for i, c := range []struct {
		o    api.Opts
		want string
	}{
		{api.Opts{MSS: 536, SackOK: true}, "\x02\x04\x02\x18\x04\x02\x00\x00"},
		{api.Opts{}, ""},
		{api.Opts{Sacks: []api.Range{}}, ""},
		{api.Opts{MSS: two}, "\x02\x04\xff\xff"},
		{api.Opts{Scaled: true}, "\x03\x03\x00\x00"},
		{api.Opts{Scaled: true, Scale: 14}, "\x03\x03\x0e\x00"},
		{api.Opts{SackOK: true}, "\x04\x02\x00\x00"},
		{api.Opts{Stamped: true}, "\x08\x0a\x00\x00\x00\x00\x00\x00\x00\x00\x00\x00"},
		{api.Opts{Stamped: true, Stamp: 0x01020304, Echo: four}, "\x08\x0a\x01\x02\x03\x04\xff\xff\xff\xff\x00\x00"},
		{api.Opts{Sacks: []api.Range{{From: four, To: 258}}}, "\x05\x0a\xff\xff\xff\xff\x00\x00\x01\x02\x00\x00"},
		{api.Opts{Stamped: true, SackOK: true}, "\x04\x02\x08\x0a\x00\x00\x00\x00\x00\x00\x00\x00"},
		{api.Opts{Sacks: []api.Range{{From: 3, To: 4}, {From: 1, To: 2}}}, "\x05\x12\x00\x00\x00\x03\x00\x00\x00\x04\x00\x00\x00\x01\x00\x00\x00\x02\x00\x00"},
	} {
		if s, e := opts.Encode(c.o); s != c.want || e != api.OK {
			t.Errorf("case %d: %q, %d", i, s, e)
		}
	}
	for i, o := range right() {
		if s, e := opts.Encode(o); s != slow(o) || e != api.OK {
			t.Errorf("right %d: %v: %q, %d", i, o, s, e)
		}
	}
	for i, o := range wrong() {
		if s, e := opts.Encode(o); s != "" || e != api.ErrOpts {
			t.Errorf("wrong %d: %v: %q, %d", i, o, s, e)
		}
	}
}

// 7.1: the most bytes are 40, the bytes 0 at their end counted.
func TestMostBytes(t *testing.T) {
	for i, o := range []api.Opts{
		{MSS: 1, Sacks: ranges(1, 4)}, {Scaled: true, Sacks: ranges(1, 4)}, {MSS: 1, SackOK: true, Sacks: ranges(1, 4)}, {Scaled: true, Stamped: true, Sacks: ranges(1, 3)}, {SackOK: true, Stamped: true, Sacks: ranges(1, 3)},
		{Scaled: true, SackOK: true, Sacks: ranges(1, 4)}, {MSS: 1, Stamped: true, Sacks: ranges(1, 3)},
	} {
		if s, e := opts.Encode(o); len(s) != 40 || e != api.OK || opts.Check(o) != api.OK || opts.Long(o) != 40 {
			t.Errorf("case %d: %d bytes, %d", i, len(s), e)
		}
	}
	for i, o := range []api.Opts{{MSS: 1, Scaled: true, Sacks: ranges(1, 4)}, {Scaled: true, SackOK: true, Stamped: true, Sacks: ranges(1, 3)}} { // 41 bytes
		if s, e := opts.Encode(o); s != "" || e != api.ErrOpts || opts.Check(o) != api.ErrOpts || opts.Long(o) != 0 {
			t.Errorf("one more %d: %d bytes, %d", i, len(s), e)
		}
	}
}

// 7.1: Long.
func TestLong(t *testing.T) {
	for i, o := range right() {
		if n := opts.Long(o); n != len(slow(o)) {
			t.Errorf("right %d: %v: %d", i, o, n)
		}
	}
	for i, o := range wrong() {
		if n := opts.Long(o); n != 0 {
			t.Errorf("wrong %d: %v: %d", i, o, n)
		}
	}
}

// 7.1: Same, of options that differ in one part, and of some that may not be.
func TestSame(t *testing.T) {
	o := api.Opts{MSS: 1, Scaled: true, Scale: 2, SackOK: true, Stamped: true, Stamp: 3, Echo: 4, Sacks: []api.Range{{From: 5, To: 6}, {From: 7, To: 8}}}
	if !opts.Same(o, o) || !opts.Same(o, twin(o)) || !opts.Same(twin(o), o) {
		t.Error("the same")
	}
	for i, change := range []func(x *api.Opts){
		func(x *api.Opts) { x.MSS = 2 }, func(x *api.Opts) { x.Scale = 1 }, func(x *api.Opts) { x.Stamp = 4 }, func(x *api.Opts) { x.Echo = 3 },
		func(x *api.Opts) { x.MSS, x.Scale = x.Scale, x.MSS }, func(x *api.Opts) { x.Stamp, x.Echo = x.Echo, x.Stamp },
		func(x *api.Opts) { x.Scaled = false }, func(x *api.Opts) { x.SackOK = false }, func(x *api.Opts) { x.Stamped = false },
		func(x *api.Opts) { x.Sacks = nil }, func(x *api.Opts) { x.Sacks = x.Sacks[:1] }, func(x *api.Opts) { x.Sacks = x.Sacks[1:] },
		func(x *api.Opts) { x.Sacks = append(x.Sacks, x.Sacks[1]) }, func(x *api.Opts) { x.Sacks[0].From = 4 }, func(x *api.Opts) { x.Sacks[1].To = 9 },
		func(x *api.Opts) { x.Sacks[0], x.Sacks[1] = x.Sacks[1], x.Sacks[0] },
	} {
		x := twin(o)
		change(&x)
		if opts.Same(o, x) || opts.Same(x, o) || !opts.Same(x, twin(x)) {
			t.Errorf("change %d: %v", i, x)
		}
	}
	if !opts.Same(api.Opts{}, api.Opts{Sacks: []api.Range{}}) || !opts.Same(api.Opts{Sacks: make([]api.Range, 0, 3)}, api.Opts{}) {
		t.Error("nil and empty")
	}
	for i, x := range wrong() {
		if !opts.Same(x, twin(x)) || opts.Same(x, api.Opts{}) {
			t.Errorf("wrong %d: %v", i, x)
		}
	}
}

// 7.1: what lies behind a list's length is not looked at.
func TestBehindTheLength(t *testing.T) {
	r := []api.Range{{From: 1, To: 2}, {From: 3, To: 3}, {From: -1}}
	a, b := api.Opts{Sacks: r[:1]}, api.Opts{Sacks: []api.Range{{From: 1, To: 2}}}
	if !opts.Same(a, b) || opts.Check(a) != api.OK || opts.Long(a) != 12 || !same(opts.Fit(a, 40), b) {
		t.Error("one range")
	}
	if s, e := opts.Encode(a); s != slow(b) || e != api.OK {
		t.Errorf("%q, %d", s, e)
	}
}

// 7.2: Decode, of bytes as Encode writes them, and with what may stand between them.
func TestDecode(t *testing.T) {
	for i, o := range right() {
		for _, s := range []string{slow(o), string(raw(o))} { // they need not be filled up
			if got, e := opts.Decode(s); !same(got, o) || e != api.OK {
				t.Errorf("right %d: %v: %v, %d", i, o, got, e)
			}
		}
	}
	for i, c := range []struct {
		s    string
		want api.Opts
	}{
		{"", api.Opts{}},
		{"\x00", api.Opts{}},
		{"\x01", api.Opts{}},
		{strings.Repeat("\x00", 40), api.Opts{}},
		{strings.Repeat("\x01", 40), api.Opts{}},
		{strings.Repeat("\x01", 38) + "\x04\x02", api.Opts{SackOK: true}},
		{"\x01\x01\x04\x02\x01", api.Opts{SackOK: true}},
		{"\x04\x02\x00\x04\x02", api.Opts{SackOK: true}},
		{"\x04\x02\x00\x02", api.Opts{SackOK: true}},
		{"\x00\x02\x04\x01\x02", api.Opts{}},
		{"\x04\x02\x02\x04\x00\x01", api.Opts{SackOK: true, MSS: 1}},
		{"\x03\x03\x00", api.Opts{Scaled: true}},
		{"\x03\x03\x0e", api.Opts{Scaled: true, Scale: 14}},
		{"\x02\x04\x00\x01", api.Opts{MSS: 1}},
		{"\x02\x04\x01\x00", api.Opts{MSS: 256}},
		{"\x05\x0a\x00\x00\x00\x01\x00\x00\x00\x02\x03\x03\x01", api.Opts{Scaled: true, Scale: 1, Sacks: []api.Range{{From: 1, To: 2}}}},
		{"\x05\x12\x00\x00\x00\x03\x00\x00\x00\x04\xff\xff\xff\xff\x00\x00\x00\x00", api.Opts{Sacks: []api.Range{{From: 3, To: 4}, {From: four}}}},
		{"\x08\x0a\x00\x00\x00\x01\x80\x00\x00\x00\x04\x02", api.Opts{SackOK: true, Stamped: true, Stamp: 1, Echo: 1 << 31}},
	} {
		if got, e := opts.Decode(c.s); !same(got, c.want) || e != api.OK {
			t.Errorf("case %d: %v, %d", i, got, e)
		}
	}
}

// 7.2: kinds that are not named are passed over, whatever is in them, and as often as they come.
func TestDecodeOtherKinds(t *testing.T) {
	for kind := range 256 {
		if kind < 6 || kind == 8 {
			continue
		}
		k := string([]byte{byte(kind)})
		for _, c := range []struct {
			s    string
			want api.Opts
		}{
			{k + "\x02", api.Opts{}},
			{k + "\x02" + k + "\x02\x04\x02", api.Opts{SackOK: true}},
			{"\x04\x02" + k + "\x06\x02\x01\x00\x03" + k + "\x03\x04", api.Opts{SackOK: true}},
			{k + "\x28" + strings.Repeat("\x03", 38), api.Opts{}},
		} {
			if got, e := opts.Decode(c.s); !same(got, c.want) || e != api.OK {
				t.Errorf("%q: %v, %d", c.s, got, e)
			}
		}
		for _, s := range []string{k, "\x04\x02" + k, k + "\x00", k + "\x01", k + "\x01\x00", k + "\x03", k + "\x05xx", k + "\xff" + strings.Repeat("\x00", 38)} {
			if got, e := opts.Decode(s); !same(got, api.Opts{}) || e != api.ErrOpts {
				t.Errorf("%q: %v, %d", s, got, e)
			}
		}
	}
}

// 7.2: an option of ours has one length alone (Sacks: four), wherever it stands, and all of it must be there.
func TestDecodeLengths(t *testing.T) {
	lengths := map[int][]int{2: {4}, 3: {3}, 4: {2}, 5: {10, 18, 26, 34}, 8: {10}}
	for kind, right := range lengths {
		for long := range 256 {
			for _, ahead := range []string{"", "\x01", "\x06\x03x"} {
				for room := range 39 - len(ahead) {
					body := strings.Repeat("\x01\x02\x03\x04\x05\x06\x07\x08", 5)[:room]
					s := ahead + string([]byte{byte(kind), byte(long)}) + body
					want := api.ErrOpts
					if slices.Contains(right, long) && long <= 2+room {
						want = api.OK
						s = s[:len(ahead)+long] // nothing wrong stands behind it
					}
					if got, e := opts.Decode(s); e != want || e != api.OK && !same(got, api.Opts{}) {
						t.Fatalf("%q: %v, %d", s, got, e)
					}
				}
			}
		}
	}
}

// 7.2: what Decode refuses.
func TestDecodeWrong(t *testing.T) {
	stamp := "\x08\x0a\x00\x00\x00\x01\x00\x00\x00\x02"
	sack := "\x05\x0a\x00\x00\x00\x01\x00\x00\x00\x02"
	for i, s := range []string{
		strings.Repeat("\x00", 41), strings.Repeat("\x01", 41), "\x04\x02" + strings.Repeat("\x00", 39), strings.Repeat("\x00", 3*api.MaxBytes),
		"\x02", "\x03", "\x04", "\x05", "\x08", "\x01\x02", "\x04\x02\x02", "\x01\x01\x01\x05",
		"\x02\x00", "\x02\x01", "\x04\x00", "\x04\x01", "\x05\x00", "\x08\x01", "\x02\x00\x01\x02", "\x04\x00\x00\x00",
		"\x02\x04", "\x02\x04\x01", "\x03\x03", stamp[:9], sack[:9], "\x04\x02" + sack[:9],
		"\x02\x04\x00\x00", "\x02\x04\x00\x00\x02\x04\x00\x01", "\x02\x04\x00\x01\x02\x04\x00\x00",
		"\x03\x03\x0f", "\x03\x03\x10", "\x03\x03\xff",
		"\x05\x0a\x00\x00\x00\x03\x00\x00\x00\x03", "\x05\x0a\x00\x00\x00\x00\x00\x00\x00\x00",
		"\x05\x12\x00\x00\x00\x01\x00\x00\x00\x02\x00\x00\x00\x03\x00\x00\x00\x03",
		"\x02\x04\x00\x01\x02\x04\x00\x01", "\x02\x04\x00\x01\x02\x04\x00\x02", "\x03\x03\x01\x03\x03\x01", "\x03\x03\x00\x03\x03\x00", "\x04\x02\x04\x02",
		stamp + stamp, sack + sack, "\x08\x0a\x00\x00\x00\x00\x00\x00\x00\x00\x08\x0a\x00\x00\x00\x00\x00\x00\x00\x00",
		"\x04\x02\x01\x06\x03x\x03\x03\x00\x04\x02",
	} {
		if got, e := opts.Decode(s); !same(got, api.Opts{}) || e != api.ErrOpts {
			t.Errorf("case %d: %v, %d", i, got, e)
		}
	}
}

// 7.2: of what was cut off in the midst of an option there is none.
func TestDecodeCutOff(t *testing.T) {
	o := api.Opts{MSS: 258, Scaled: true, Scale: 7, SackOK: true, Stamped: true, Stamp: 1, Echo: 2, Sacks: []api.Range{{From: 3, To: 4}}}
	s := slow(o)
	ends := map[int]int{0: 1, 4: 1, 7: 1, 9: 1, 19: 1, 29: 1, 30: 1, 31: 1, 32: 1}
	for n := range len(s) + 1 {
		want := api.ErrOpts
		if ends[n] == 1 {
			want = api.OK
		}
		if got, e := opts.Decode(s[:n]); e != want || e != api.OK && !same(got, api.Opts{}) {
			t.Errorf("the first %d: %v, %d", n, got, e)
		}
	}
}

// parsed reads bytes as the words say it: all options first, then what is wrong with them.
func parsed(s string) (o api.Opts, ok bool) {
	if len(s) > 40 {
		return o, false
	}
	times := [256]int{}
	for i := 0; i < len(s) && s[i] != 0; {
		if s[i] == 1 {
			i++
			continue
		}
		if i+1 == len(s) || s[i+1] < 2 || i+int(s[i+1]) > len(s) {
			return api.Opts{}, false
		}
		kind, body := int(s[i]), []byte(s[i+2:i+int(s[i+1])])
		i += int(s[i+1])
		times[kind]++
		switch {
		case kind == 2 && len(body) == 2 && number(body) > 0:
			o.MSS = number(body)
		case kind == 3 && len(body) == 1 && body[0] < 15:
			o.Scaled, o.Scale = true, int(body[0])
		case kind == 4 && len(body) == 0:
			o.SackOK = true
		case kind == 8 && len(body) == 8:
			o.Stamped, o.Stamp, o.Echo = true, number(body[:4]), number(body[4:])
		case kind == 5 && (len(body) == 8 || len(body) == 16 || len(body) == 24 || len(body) == 32):
			for r := range slices.Chunk(body, 8) {
				o.Sacks = append(o.Sacks, api.Range{From: number(r[:4]), To: number(r[4:])})
			}
		case kind <= 5 || kind == 8:
			return api.Opts{}, false
		}
	}
	for _, r := range o.Sacks {
		if r.From == r.To {
			return api.Opts{}, false
		}
	}
	if max(times[2], times[3], times[4], times[5], times[8]) > 1 {
		return api.Opts{}, false
	}
	return o, true
}

// 7.2: Decode tells of whatever it is given what the words say.
func TestDecodeAnything(t *testing.T) {
	parts := []string{
		"\x00", "\x01", "\x02\x04\x02\x18", "\x02\x04\x00\x00", "\x03\x03\x05", "\x03\x03\x0f", "\x04\x02", "\x04\x03x", "\x08\x0aabcdefgh", "\x08\x09abcdefg",
		"\x05\x0aabcdefgh", "\x05\x0aabcdabcd", "\x05\x12abcdefghijklmnop", "\x06\x02", "\x07\x04xx", "\xfe\x03\x00", "\x02", "\x05\x02",
	}
	accepted := 0
	for seed := range 60000 {
		b := bytesOf(seed, 48)
		s := ""
		if seed%3 == 0 { // small bytes, of which many are kinds and lengths
			for _, x := range b[8 : 8+int(b[0])%40] {
				s += string([]byte{x % 11})
			}
		} else {
			for _, x := range b[8 : 8+int(b[0])%8] {
				s += parts[int(x)%len(parts)]
			}
		}
		want, ok := parsed(s)
		got, e := opts.Decode(s)
		if !same(got, want) || (e == api.OK) != ok || e != api.OK && e != api.ErrOpts {
			t.Fatalf("%q: %v, %d, not %v, %v", s, got, e, want, ok)
		}
		if ok && opts.Check(got) != api.OK {
			t.Fatalf("%q: %v may not be", s, got)
		}
		if ok && len(s) > 4 {
			accepted++
		}
	}
	if accepted < 1000 {
		t.Errorf("only %d were taken", accepted)
	}
}

// 7.3: Fit.
func TestFit(t *testing.T) {
	r := ranges(1, 4)
	for i, c := range []struct {
		o          api.Opts
		most, want int
	}{
		{api.Opts{Sacks: r}, 40, 4}, {api.Opts{Sacks: r}, math.MaxInt, 4}, {api.Opts{Sacks: r}, 36, 4}, {api.Opts{Sacks: r}, 35, 3}, {api.Opts{Sacks: r}, 34, 3}, {api.Opts{Sacks: r}, 28, 3},
		{api.Opts{Sacks: r}, 27, 2}, {api.Opts{Sacks: r}, 20, 2}, {api.Opts{Sacks: r}, 19, 1}, {api.Opts{Sacks: r}, 12, 1}, {api.Opts{Sacks: r}, 11, 0}, {api.Opts{Sacks: r}, 0, 0},
		{api.Opts{Sacks: r}, -1, 0}, {api.Opts{Sacks: r}, math.MinInt, 0},
		{api.Opts{SackOK: true, Sacks: r}, 36, 4}, {api.Opts{SackOK: true, Sacks: r}, 35, 3},
		{api.Opts{Stamped: true, Sacks: r[:3]}, 36, 3}, {api.Opts{Stamped: true, Sacks: r[:3]}, 35, 2}, {api.Opts{Stamped: true, Sacks: r[:3]}, 20, 1}, {api.Opts{Stamped: true, Sacks: r[:3]}, 19, 0},
		{api.Opts{MSS: 1, Scaled: true, SackOK: true, Stamped: true, Sacks: r[:2]}, 40, 2}, {api.Opts{MSS: 1, Scaled: true, SackOK: true, Stamped: true, Sacks: r[:2]}, 39, 1},
		{api.Opts{MSS: 1, Scaled: true, SackOK: true, Stamped: true, Sacks: r[:2]}, 31, 0}, {api.Opts{MSS: 1, Scaled: true, SackOK: true, Stamped: true, Sacks: r[:2]}, 4, 0},
		{api.Opts{MSS: 1, Scaled: true, Scale: 3, SackOK: true, Stamped: true, Stamp: 4, Echo: 5}, 0, 0}, {api.Opts{MSS: 1}, -1, 0}, {api.Opts{}, 0, 0}, {api.Opts{}, 40, 0},
	} {
		want := twin(c.o)
		want.Sacks = want.Sacks[:c.want]
		if got := opts.Fit(c.o, c.most); !same(got, want) {
			t.Errorf("case %d: %v", i, got)
		}
	}
}

// 7.3: no Sack is left out that would fit, and none but the last ones; all else stays.
func TestFitAny(t *testing.T) {
	for i, o := range right() {
		for most := -2; most < 44; most++ {
			want := twin(o)
			for len(want.Sacks) > 0 && len(slow(want)) > most {
				want.Sacks = want.Sacks[:len(want.Sacks)-1]
			}
			if got := opts.Fit(o, most); !same(got, want) || opts.Check(got) != api.OK {
				t.Errorf("right %d, most %d: %v: %v", i, most, o, got)
			}
		}
	}
	for i, o := range wrong() {
		for _, most := range []int{-1, 0, 12, 40, 1 << 20, math.MaxInt, math.MinInt} {
			if got := opts.Fit(o, most); !same(got, api.Opts{}) {
				t.Errorf("wrong %d, most %d: %v: %v", i, most, o, got)
			}
		}
	}
}

// All promises: what is handed in is not changed, and an answer shares no memory with it, or with another answer.
func TestSharesNothing(t *testing.T) {
	room := append(ranges(1, 4), api.Range{From: 77, To: 78})
	for n := range 5 {
		for most := range 44 {
			before := slices.Clone(room)
			o := api.Opts{Sacks: room[:n]}
			got, again := opts.Fit(o, most), opts.Fit(o, most)
			opts.Encode(o)
			opts.Check(o)
			opts.Same(o, got)
			spoil(got)
			if !slices.Equal(room, before) || len(o.Sacks) != n || !slices.Equal(again.Sacks, room[:len(again.Sacks)]) {
				t.Fatalf("%d, most %d: %v", n, most, room)
			}
		}
	}
	s := slow(api.Opts{Sacks: room[:4]})
	a, _ := opts.Decode(s)
	b, _ := opts.Decode(s)
	spoil(a)
	if !slices.Equal(b.Sacks, room[:4]) {
		t.Error("two answers of Decode share memory")
	}
}

// spoil writes over all memory of a list, spare room too.
func spoil(o api.Opts) {
	all := o.Sacks[:cap(o.Sacks)]
	for i := range all {
		all[i] = api.Range{From: -9, To: -9}
	}
}

// 7.4: there and back.
func TestThereAndBack(t *testing.T) {
	seen := map[string]api.Opts{}
	for i, o := range right() {
		s, e := opts.Encode(o)
		if e != api.OK || len(s) != opts.Long(o) || len(s)%4 != 0 {
			t.Fatalf("right %d: %q, %d", i, s, e)
		}
		if other, there := seen[s]; there && !same(other, o) {
			t.Errorf("%v and %v have the same bytes", o, other)
		}
		seen[s] = o
		back, e := opts.Decode(s)
		if !opts.Same(back, o) || !same(back, o) || e != api.OK {
			t.Errorf("%v came back as %v, %d", o, back, e)
		}
		if again, e := opts.Encode(back); again != s || e != api.OK {
			t.Errorf("%v came back as other bytes, %d", o, e)
		}
	}
}

// 7.4: what was read from any bytes may be written, and comes back.
func TestBackAndThere(t *testing.T) {
	for _, s := range []string{
		"\x01\x04\x02\x01\x03\x03\x07\x01\x02\x04\x05\xb4", "\x04\x02\x08\x0aabcdefgh\x01\x03\x03\x07", "\x01\x01\x05\x12abcdefghijklmnop",
		"\x05\x22abcdefghijklmnopqrstuvwxyzABCDEF\x03\x03\x02", "\xfd\x05xyz\x05\x0aabcdefgh\x02\x04\x00\x01\x00\x02", strings.Repeat("\x01", 30) + "\x08\x0aabcdefgh",
	} {
		o, e := opts.Decode(s)
		if e != api.OK {
			t.Fatalf("%q: %d", s, e)
		}
		b, e := opts.Encode(o)
		if e != api.OK {
			t.Fatalf("%q: %v: %d", s, o, e)
		}
		if back, e := opts.Decode(b); !same(back, o) || e != api.OK {
			t.Errorf("%q: %v, then %v, %d", s, o, back, e)
		}
	}
}
