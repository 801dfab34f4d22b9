package icmp_test

import (
	"math"
	"strings"
	"testing"

	"sternpost/api"
	"sternpost/icmp"
	"sternpost/ip"
)

const (
	two  = 1<<16 - 1 // the greatest number of two bytes
	four = 1<<32 - 1
	full = 65500 // the most data of an ICMP packet
)

// farNumbers lie in no range that this layer takes.
var farNumbers = []int{-1, -2, -256, two + 1, four, four + 1, 1 << 48, math.MinInt, math.MinInt + 1, math.MaxInt, math.MaxInt - 1}

// bytesOf makes long bytes that differ, and from seed to seed.
func bytesOf(seed, long int) string {
	b := make([]byte, long)
	n := uint32(seed)*2654435761 + 12345
	for i := range b {
		n = n*1664525 + 1013904223
		b[i] = byte(n >> 24)
	}
	return string(b)
}

// right are packets that may be, with each field at its edges.
func right() []api.Icmp {
	ms := []api.Icmp{
		{},
		{Type: 8, A: 1, B: 2},
		{Type: 8, A: 1, B: 2, Data: "abc"},
		{Type: 0, A: 0x0102, B: 0x0304, Data: "\x00"},
		{Type: 3, Code: 4, A: 5, B: 6, Data: "\xff\xff"},
		{Type: 11, Code: 1},
		{Type: 255, Code: 255, A: two, B: two},
		{Type: 255, Code: 255, A: two, B: two, Data: strings.Repeat("\xff", full)},
		{Data: strings.Repeat("\x00", full)},
		{Type: 8, Data: bytesOf(1, full-1)},
		{Type: 8, Data: bytesOf(2, full)},
		{Type: 1, Code: 2, A: 3, B: 4, Data: bytesOf(3, 1473)},
	}
	for bit := range 16 {
		ms = append(ms, api.Icmp{A: 1 << bit}, api.Icmp{B: 1 << bit}, api.Icmp{Type: 1 << (bit % 8)}, api.Icmp{Code: 1 << (bit % 8)}, api.Icmp{Type: 8, Data: bytesOf(bit, bit)})
	}
	return ms
}

// wrong are packets that may not be, each for one reason; all but those of a wrong Type or Code are questions else.
func wrong() []api.Icmp {
	ms := []api.Icmp{
		{Type: 256}, {Type: 256 + 8}, {Type: two}, {Type: 8, Code: 256}, {Type: 8, Code: two},
		{Type: 8, Data: strings.Repeat("x", full+1)}, {Type: 8, Data: strings.Repeat("\x00", full+8)}, {Type: 8, Data: strings.Repeat("x", 2*api.MaxBytes)},
	}
	for _, n := range farNumbers {
		ms = append(ms, api.Icmp{Type: n}, api.Icmp{Type: 8, Code: n}, api.Icmp{Type: 8, A: n}, api.Icmp{Type: 8, B: n})
	}
	return ms
}

// wrongPackets are packets of IPv4 that may not be, each for one reason, about which nothing else stands against telling.
func wrongPackets() []api.Packet {
	return []api.Packet{
		{From: -1, To: 11}, {From: four + 1, To: 11}, {From: 10, To: -1}, {From: 10, To: four + 1}, {From: math.MinInt}, {From: 10, To: math.MaxInt},
		{From: 10, TTL: -1}, {From: 10, TTL: 256}, {From: 10, Proto: -1}, {From: 10, Proto: 256}, {From: 10, Proto: 256 + api.ProtoIcmp},
		{From: 10, Ident: -1}, {From: 10, Ident: two + 1}, {From: 10, Frag: -1}, {From: 10, Frag: 8192},
		{From: 10, Options: "abc"}, {From: 10, Options: strings.Repeat("x", 44)},
		{From: 10, Data: strings.Repeat("x", two-19)}, {From: 10, Options: "abcd", Data: strings.Repeat("x", two-23)},
		{From: 10, More: true}, {From: 10, More: true, Data: "1234567"}, {From: 10, Proto: api.ProtoIcmp, More: true, Data: "\x08"},
	}
}

// slow is a packet's bytes as the words say them.
func slow(m api.Icmp) string {
	b := []byte{byte(m.Type), byte(m.Code), 0, 0, byte(m.A >> 8), byte(m.A), byte(m.B >> 8), byte(m.B)}
	b = append(b, m.Data...)
	n := 0
	for i, x := range b {
		n += int(x) << (8 * (1 - i%2))
	}
	for n > two {
		n = n/(two+1) + n%(two+1)
	}
	b[2], b[3] = byte((two-n)>>8), byte(two-n)
	return string(b)
}

// short is a packet without its bulk, for what a test tells.
func short(m api.Icmp) api.Icmp {
	m.Data = m.Data[:min(8, len(m.Data))]
	return m
}

// refused fails the test unless what was answered is nothing, beside that error.
func refused(t *testing.T, m api.Icmp, e, want api.Code, what ...any) {
	t.Helper()
	if m != (api.Icmp{}) || e != want {
		t.Errorf("%v: %v, %d, not %d", what, short(m), e, want)
	}
}

// 6.1: Check.
func TestCheck(t *testing.T) {
	for i, m := range right() {
		if e := icmp.Check(m); e != api.OK {
			t.Errorf("right %d: %v: %d", i, short(m), e)
		}
	}
	for i, m := range wrong() {
		if e := icmp.Check(m); e != api.ErrIcmp {
			t.Errorf("wrong %d: %v: %d", i, short(m), e)
		}
	}
}

// 6.1: Encode.
func TestEncode(t *testing.T) {
	for i, c := range []struct {
		m    api.Icmp
		want string
	}{
		{api.Icmp{Type: 8, A: 1, B: 2}, "\x08\x00\xf7\xfc\x00\x01\x00\x02"},
		{api.Icmp{}, "\x00\x00\xff\xff\x00\x00\x00\x00"},
		{api.Icmp{Type: 255, Code: 255, A: two, B: two}, "\xff\xff\x00\x00\xff\xff\xff\xff"},
		{api.Icmp{Type: 3, Code: 1, A: 0x0102, B: 0x0304, Data: "a"}, "\x03\x01\x97\xf8\x01\x02\x03\x04a"},
		{api.Icmp{Type: 8, A: 1, B: 2, Data: "abc"}, "\x08\x00\x33\x9a\x00\x01\x00\x02abc"},
	} {
		if s, e := icmp.Encode(c.m); s != c.want || e != api.OK {
			t.Errorf("case %d: %q, %d", i, s, e)
		}
	}
	for i, m := range right() {
		if s, e := icmp.Encode(m); s != slow(m) || e != api.OK {
			t.Errorf("right %d: %v: %d bytes, %d", i, short(m), len(s), e)
		}
	}
	for i, m := range wrong() {
		if s, e := icmp.Encode(m); s != "" || e != api.ErrIcmp {
			t.Errorf("wrong %d: %v: %d bytes, %d", i, short(m), len(s), e)
		}
	}
}

// 6.1: Decode, of every type and code.
func TestDecode(t *testing.T) {
	ms := right()
	for n := range 256 {
		ms = append(ms, api.Icmp{Type: n, A: n, Data: "x"}, api.Icmp{Type: 8, Code: n, B: n << 8}, api.Icmp{Type: n, Code: 255 - n})
	}
	for i, m := range ms {
		if got, e := icmp.Decode(slow(m)); got != m || e != api.OK {
			t.Errorf("right %d: %v: %v, %d", i, short(m), short(got), e)
		}
	}
}

// 6.1: Decode refuses what is too short or too long, whatever its sum is.
func TestDecodeLengths(t *testing.T) {
	for n := range 8 {
		for _, s := range []string{strings.Repeat("\x00", n), strings.Repeat("\xff", n), slow(api.Icmp{Type: 8, A: 1, B: 2})[:n]} {
			m, e := icmp.Decode(s)
			refused(t, m, e, api.ErrIcmp, "the first bytes", n)
		}
	}
	for _, n := range []int{65509, 65510, api.MaxBytes, api.MaxBytes + 1, 3 * api.MaxBytes} {
		for _, fill := range []string{"\x00", "\xff"} { // with the second one, the sum of an even length is 0
			m, e := icmp.Decode(strings.Repeat(fill, n))
			refused(t, m, e, api.ErrIcmp, "bytes", n)
		}
	}
	want := api.Icmp{Type: 255, Code: 255, A: two, B: two, Data: strings.Repeat("\xff", full)}
	if m, e := icmp.Decode(strings.Repeat("\xff", 65508)); m != want || e != api.OK {
		t.Errorf("the most bytes: %v, %d", short(m), e)
	}
	m, e := icmp.Decode(strings.Repeat("\x00", 65508))
	refused(t, m, e, api.ErrSum, "the most bytes, all 0")
	m, e = icmp.Decode(strings.Repeat("\x00", 8))
	refused(t, m, e, api.ErrSum, "the fewest bytes, all 0")
}

// 6.1: Decode refuses a packet of which one bit is another one, in its data too, and one that is cut off or has more behind it.
func TestDecodeSum(t *testing.T) {
	for _, m := range []api.Icmp{{Type: 8, A: 1, B: 2, Data: "abc"}, {Type: 3, Code: 1, Data: bytesOf(1, 28)}, {}, {Type: 255, Code: 255, A: two, B: two}} {
		s := slow(m)
		for bit := range 8 * len(s) {
			b := []byte(s)
			b[bit/8] ^= 1 << (bit % 8)
			got, e := icmp.Decode(string(b))
			refused(t, got, e, api.ErrSum, "bit", bit)
		}
		got, e := icmp.Decode(s + "x")
		refused(t, got, e, api.ErrSum, "with a byte behind")
	}
	m, e := icmp.Decode(slow(api.Icmp{Type: 8, Data: "abc"})[:10])
	refused(t, m, e, api.ErrSum, "cut off")
}

// 6.1: bytes 0 behind do not change the sum: they are data.
func TestDecodeZerosBehind(t *testing.T) {
	m := api.Icmp{Type: 8, A: 1, B: 2, Data: "ab"}
	want := m
	want.Data += "\x00\x00\x00"
	if got, e := icmp.Decode(slow(m) + "\x00\x00\x00"); got != want || e != api.OK {
		t.Errorf("%v, %d", got, e)
	}
}

// 6.1: a sum of 65535 stands for 0 where one reads.
func TestDecodeOtherZero(t *testing.T) {
	want := api.Icmp{Type: 255, Code: 255}
	for _, s := range []string{"\xff\xff\x00\x00\x00\x00\x00\x00", "\xff\xff\xff\xff\x00\x00\x00\x00"} {
		if m, e := icmp.Decode(s); m != want || e != api.OK {
			t.Errorf("%q: %v, %d", s, m, e)
		}
	}
}

// 6.1: Decode tells something of whatever it is given.
func TestDecodeAnything(t *testing.T) {
	for seed := range 20000 {
		s := bytesOf(seed, seed%40)
		m, e := icmp.Decode(s)
		if e == api.OK && icmp.Check(m) != api.OK || e != api.OK && m != (api.Icmp{}) || len(s) < 8 && e != api.ErrIcmp || len(s) >= 8 && e != api.OK && e != api.ErrSum {
			t.Errorf("%q: %v, %d", s, m, e)
		}
	}
}

// 6.2 and 6.3: an answer has what was asked.
func TestAnswer(t *testing.T) {
	for _, n := range []int{0, 1, 2, 255, 256, two} {
		for _, data := range []string{"", "\x00", "abc", bytesOf(n, 1472), bytesOf(n, full)} {
			for _, m := range []api.Icmp{{Type: 8, A: n, B: 7, Data: data}, {Type: 8, A: 7, B: n, Data: data}, {Type: 8, A: n, B: n, Data: data}} {
				want := api.Icmp{Type: 0, Code: 0, A: m.A, B: m.B, Data: data}
				if got, e := icmp.Answer(m); got != want || e != api.OK {
					t.Errorf("%v: %v, %d", short(m), short(got), e)
				}
			}
		}
	}
}

// 6.2: Answer refuses what may not be, and what does not ask.
func TestAnswerWrong(t *testing.T) {
	for i, m := range wrong() {
		got, e := icmp.Answer(m)
		refused(t, got, e, api.ErrIcmp, "wrong", i)
	}
	for n := range 256 {
		if n != 8 {
			got, e := icmp.Answer(api.Icmp{Type: n, A: 1, B: 2})
			refused(t, got, e, api.ErrIcmp, "of type", n)
		}
		if n != 0 {
			got, e := icmp.Answer(api.Icmp{Type: 8, Code: n, A: 1, B: 2})
			refused(t, got, e, api.ErrIcmp, "of code", n)
		}
	}
	told, e := icmp.Answer(api.Icmp{Type: 8, A: 1, B: 2})
	if e != api.OK {
		t.Fatal(e)
	}
	got, e := icmp.Answer(told)
	refused(t, got, e, api.ErrIcmp, "an answer")
}

// 6.2: About tells of a packet by its header, options too, and by at most 8 bytes of its data.
func TestAbout(t *testing.T) {
	p := api.Packet{From: 10, To: 11, TTL: 64, Proto: api.ProtoTcp, Data: "ab"}
	want := api.Icmp{Type: 3, Code: 1, Data: "\x45\x00\x00\x16\x00\x00\x00\x00\x40\x06\x7a\xce\x00\x00\x00\x0a\x00\x00\x00\x0bab"}
	if m, e := icmp.About(3, 1, p); m != want || e != api.OK {
		t.Errorf("%v, %d", m, e)
	}
	for _, kind := range []int{3, 11} {
		for code := range 16 {
			for _, options := range []int{0, 4, 40} {
				for _, long := range []int{0, 1, 7, 8, 9, 16, 1480, two - 20 - options} {
					p := api.Packet{From: 10, To: 11, TTL: 1, Proto: 17, Ident: 5, Dont: true, Options: bytesOf(options, options), Data: bytesOf(long, long)}
					s, e := ip.Encode(p)
					if e != api.OK {
						t.Fatal(e)
					}
					want := api.Icmp{Type: kind, Code: code, Data: s[:20+options+min(8, long)]}
					if m, e := icmp.About(kind, code, p); m != want || e != api.OK || icmp.Check(m) != api.OK {
						t.Errorf("%d, %d, %d options, %d data: %q, %d", kind, code, options, long, m.Data, e)
					}
				}
			}
		}
	}
}

// 6.2: About takes every packet that may be, also one about which none may be sent.
func TestAboutAny(t *testing.T) {
	for i, p := range []api.Packet{
		{}, {To: four}, {From: 10, Frag: 1, Data: "ab"}, {From: 10, Proto: api.ProtoIcmp}, {From: 10, Proto: api.ProtoIcmp, Data: "\x03"}, {From: 10, Frag: 9, More: true, Data: "12345678"},
	} {
		s, _ := ip.Encode(p)
		if m, e := icmp.About(11, 0, p); m != (api.Icmp{Type: 11, Data: s}) || e != api.OK || icmp.May(p) {
			t.Errorf("case %d: %v, %d", i, m, e)
		}
	}
}

// 6.2: what About refuses, in its order.
func TestAboutWrong(t *testing.T) {
	p := api.Packet{From: 10, To: 11, TTL: 1, Data: "ab"}
	kinds := append([]int{256, 256 + 3, 256 + 11, -3, -11}, farNumbers...)
	for n := range 256 {
		if n != 3 && n != 11 {
			kinds = append(kinds, n)
		}
	}
	for _, kind := range kinds {
		for _, code := range []int{-1, 0, 15, 16} {
			m, e := icmp.About(kind, code, p)
			refused(t, m, e, api.ErrRange, "kind", kind, code)
		}
		m, e := icmp.About(kind, 0, api.Packet{TTL: -1})
		refused(t, m, e, api.ErrRange, "kind", kind, "of what may not be")
	}
	for _, kind := range []int{3, 11} {
		for _, code := range append([]int{16, 17, 255, 256, -15}, farNumbers...) {
			m, e := icmp.About(kind, code, p)
			refused(t, m, e, api.ErrRange, "code", kind, code)
			m, e = icmp.About(kind, code, api.Packet{TTL: -1})
			refused(t, m, e, api.ErrRange, "code", kind, code, "of what may not be")
		}
		for i, q := range wrongPackets() {
			m, e := icmp.About(kind, i%16, q)
			refused(t, m, e, api.ErrIP, "wrong", kind, i)
		}
	}
}

// 6.2: May.
func TestMay(t *testing.T) {
	for i, c := range []struct {
		p    api.Packet
		want bool
	}{
		{api.Packet{From: 10, To: 11, TTL: 1, Proto: 17, Data: "ab"}, true},
		{api.Packet{From: 1}, true},
		{api.Packet{From: four, To: four - 1}, true},
		{api.Packet{From: 10, To: 11, Proto: 255, Ident: two, Dont: true, Options: "abcd"}, true},
		{api.Packet{From: 10, To: 11, More: true, Data: "12345678"}, true},
		{api.Packet{}, false},
		{api.Packet{From: 0, To: 11}, false},
		{api.Packet{From: 10, To: four}, false},
		{api.Packet{From: 0, To: four}, false},
		{api.Packet{From: four, To: four}, false},
		{api.Packet{From: 10, To: 11, Frag: 1}, false},
		{api.Packet{From: 10, To: 11, Frag: 8191, Data: "a"}, false},
		{api.Packet{From: 10, To: 11, Frag: 1, More: true, Data: "12345678"}, false},
		{api.Packet{From: 10, To: 11, Proto: api.ProtoIcmp}, false},
		{api.Packet{From: 0, To: 11, Proto: api.ProtoIcmp, Data: "\x08"}, false},
		{api.Packet{From: 10, To: four, Proto: api.ProtoIcmp, Data: "\x08"}, false},
		{api.Packet{From: 10, To: 11, Frag: 1, Proto: api.ProtoIcmp, Data: "\x08"}, false},
		{api.Packet{From: 10, To: 11, Proto: api.ProtoIcmp, More: true, Data: "\x081234567"}, true},
	} {
		if got := icmp.May(c.p); got != c.want {
			t.Errorf("case %d: %v", i, got)
		}
	}
	for i, p := range wrongPackets() {
		if icmp.May(p) {
			t.Errorf("wrong %d: %v", i, p.Proto)
		}
	}
}

// 6.2: May goes by the first byte of an ICMP packet, and by the protocol of others, whatever stands behind.
func TestMayFirstByte(t *testing.T) {
	for n := range 256 {
		for _, behind := range []string{"", "\x00", "\x08", "\x03 and more", strings.Repeat("\x08", 1472)} {
			data := string([]byte{byte(n)}) + behind
			p := api.Packet{From: 10, To: 11, TTL: 64, Proto: api.ProtoIcmp, Data: data}
			if got := icmp.May(p); got != (n == 0 || n == 8) {
				t.Errorf("first byte %d: %v", n, got)
			}
			p.Proto = n
			if p.Data = "\x03" + behind; icmp.May(p) != (n != api.ProtoIcmp) {
				t.Errorf("protocol %d", n)
			}
		}
	}
}

// 6.2: about what tells about something, nothing may be sent; about a question and its answer it may.
func TestMayOfItsOwn(t *testing.T) {
	p := api.Packet{From: 10, To: 11, TTL: 1, Proto: api.ProtoTcp, Data: "0123456789"}
	late, _ := icmp.About(11, 0, p)
	lost, _ := icmp.About(3, 3, p)
	ask := api.Icmp{Type: 8, A: 1, B: 2, Data: "abc"}
	tell, _ := icmp.Answer(ask)
	for i, m := range []api.Icmp{ask, tell, late, lost} {
		s, e := icmp.Encode(m)
		if got := icmp.May(api.Packet{From: 11, To: 10, TTL: 64, Proto: api.ProtoIcmp, Data: s}); e != api.OK || got != (i < 2) {
			t.Errorf("case %d: %v, %d", i, got, e)
		}
	}
}

// 6.3: there and back.
func TestThereAndBack(t *testing.T) {
	ms := right()
	for long := range 70 {
		ms = append(ms, api.Icmp{Type: 8, A: long, B: 2 * long, Data: bytesOf(long, long)})
	}
	seen := map[string]api.Icmp{}
	for i, m := range ms {
		s, e := icmp.Encode(m)
		if e != api.OK || len(s) != 8+len(m.Data) {
			t.Fatalf("right %d: %d bytes, %d", i, len(s), e)
		}
		if other, there := seen[s]; there && other != m {
			t.Errorf("%v and %v have the same bytes", short(m), short(other))
		}
		seen[s] = m
		back, e := icmp.Decode(s)
		if back != m || e != api.OK {
			t.Errorf("%v came back as %v, %d", short(m), short(back), e)
		}
		if again, e := icmp.Encode(back); again != s || e != api.OK {
			t.Errorf("%v came back as other bytes, %d", short(m), e)
		}
	}
}

// 6.3: an answer has what was asked, over the wire too.
func TestAnswerOverTheWire(t *testing.T) {
	for seed := range 300 {
		ask := api.Icmp{Type: 8, A: seed * 211 % (two + 1), B: seed * 907 % (two + 1), Data: bytesOf(seed, seed)}
		s, _ := icmp.Encode(ask)
		heard, _ := icmp.Decode(s)
		told, e := icmp.Answer(heard)
		if e != api.OK {
			t.Fatal(e)
		}
		s, _ = icmp.Encode(told)
		got, e := icmp.Decode(s)
		if got != (api.Icmp{A: ask.A, B: ask.B, Data: ask.Data}) || e != api.OK {
			t.Errorf("%v: %v, %d", short(ask), short(got), e)
		}
	}
}
