package ip_test

import (
	"math"
	"slices"
	"strings"
	"testing"

	"sternpost/api"
	"sternpost/ip"
)

const (
	two  = 1<<16 - 1 // the greatest number of two bytes, and the most bytes of a packet
	four = 1<<32 - 1
	full = two - 20 // the most data of a packet without options
)

// farNumbers lie in no range that this layer takes.
var farNumbers = []int{-1, -2, -two, four + 1, four + 2, 1 << 48, math.MinInt, math.MinInt + 1, math.MaxInt, math.MaxInt - 1}

// bytesOf makes long bytes that differ, and from seed to seed.
func bytesOf(seed, long int) string {
	b := make([]byte, long)
	n := uint32(seed)*2654435761 + 12345
	for i := range b {
		n = n*1664525 + 1013904223
		b[i] = byte(n >> 24)
	}
	return string(b)
}

// right are packets that may be, with each field at its edges.
func right() []api.Packet {
	ps := []api.Packet{
		{},
		{From: 10, To: 11, TTL: 64, Proto: api.ProtoTcp, Data: "ab"},
		{From: 10, To: 258, TTL: 64, Proto: api.ProtoTcp, Ident: 3, Dont: true, Options: "abcd", Data: "xyz"},
		{From: 0x01020304, To: 0x05060708, TTL: 9, Proto: 10, Ident: 0x0b0c, Frag: 0x0d0e, Data: "\x00\xff"},
		{From: four, To: four, TTL: 255, Proto: 255, Ident: two, Frag: 8191, Dont: true, Options: strings.Repeat("\xff", 40), Data: "1234567"},
		{Frag: 8191},
		{Frag: 8190, More: true, Data: "12345678"},
		{Frag: 8190, Data: "123456789012345"},
		{Frag: 1, Data: bytesOf(1, full)},
		{Frag: 2, Data: bytesOf(2, full)},
		{Frag: 3, Data: bytesOf(3, two-24)},
		{Data: bytesOf(4, full)},
		{Data: bytesOf(5, full-1)},
		{Options: bytesOf(6, 40), Data: bytesOf(7, full-40)},
		{Options: "1234", Data: bytesOf(8, full-4)},
		{More: true, Data: bytesOf(9, 8)},
		{More: true, Dont: true, Data: bytesOf(10, 16)},
		{More: true, Data: bytesOf(11, 65512)},
		{More: true, Frag: 2, Data: bytesOf(12, 65512)},
	}
	for long := 0; long <= 40; long += 4 {
		ps = append(ps, api.Packet{TTL: 1, Options: bytesOf(long, long), Data: bytesOf(long, long/4)})
	}
	for bit := range 32 {
		ps = append(ps, api.Packet{From: 1 << bit}, api.Packet{To: 1 << bit})
	}
	for bit := range 16 {
		ps = append(ps, api.Packet{Ident: 1 << bit}, api.Packet{TTL: 1 << (bit % 8)}, api.Packet{Proto: 1 << (bit % 8)}, api.Packet{Frag: 1 << (bit % 13)})
	}
	return ps
}

// wrong are packets that may not be, each for one reason.
func wrong() []api.Packet {
	ps := []api.Packet{
		{TTL: 256}, {Proto: 256}, {Ident: two + 1}, {Frag: 8192}, {Frag: 1 << 60}, {Frag: 1 << 61},
		{Options: "a"}, {Options: "ab"}, {Options: "abc"}, {Options: "abcde"},
		{Options: strings.Repeat("x", 39)}, {Options: strings.Repeat("x", 41)}, {Options: strings.Repeat("x", 44)}, {Options: strings.Repeat("x", 60)},
		{Data: strings.Repeat("x", full+1)}, {Data: strings.Repeat("x", two)}, {Data: strings.Repeat("x", 2*api.MaxBytes)},
		{Options: "abcd", Data: strings.Repeat("x", full-3)}, {Options: strings.Repeat("x", 40), Data: strings.Repeat("x", full-39)},
		{More: true}, {More: true, Frag: 8191}, {More: true, Data: "1"}, {More: true, Data: "1234567"}, {More: true, Data: "123456789"}, {More: true, Data: "123456789012"},
		{More: true, Data: strings.Repeat("x", full)}, {More: true, Data: strings.Repeat("x", 65520)},
		{Frag: 8191, Data: "12345678"}, {Frag: 8191, More: true, Data: "12345678"}, {Frag: 8190, Data: strings.Repeat("x", 16)},
		{Frag: 3, Data: strings.Repeat("x", two-23)}, {Frag: 4096, Data: strings.Repeat("x", 1<<15)}, {More: true, Frag: 3, Data: strings.Repeat("x", 65512)},
	}
	for _, n := range farNumbers {
		ps = append(ps, api.Packet{From: n}, api.Packet{To: n}, api.Packet{TTL: n}, api.Packet{Proto: n}, api.Packet{Ident: n}, api.Packet{Frag: n}, api.Packet{Frag: n, Data: "12345678", More: true})
	}
	return ps
}

// raw is a header's numbers as they stand in its bytes, right or not.
type raw struct {
	version, head, zero, long, ident, flags, ttl, proto, from, to int
	behind                                                        string
}

// rawOf is what stands in a packet's bytes, as the words say it.
func rawOf(p api.Packet) raw {
	flags := p.Frag
	if p.Dont {
		flags += 16384
	}
	if p.More {
		flags += 8192
	}
	head := 20 + len(p.Options)
	return raw{4, head / 4, 0, head + len(p.Data), p.Ident, flags, p.TTL, p.Proto, p.From, p.To, p.Options + p.Data}
}

// bytes has the right sum of so many bytes as the header says that it has, as far as they are there.
func (r raw) bytes() string {
	var b []byte
	for _, field := range []struct{ n, wide int }{
		{r.version*16 + r.head, 1}, {r.zero, 1}, {r.long, 2}, {r.ident, 2}, {r.flags, 2}, {r.ttl, 1}, {r.proto, 1}, {0, 2}, {r.from, 4}, {r.to, 4},
	} {
		for i := field.wide - 1; i >= 0; i-- {
			b = append(b, byte(field.n>>(8*i)))
		}
	}
	b = append(b, r.behind...)
	n := 0
	for i := 0; i+1 < len(b) && i < 4*r.head; i += 2 {
		n += int(b[i])*256 + int(b[i+1])
	}
	n = (two - n%two) % two // a header is never all zeros, so what is a multiple of two adds up to two and not to 0
	b[10], b[11] = byte(n>>8), byte(n)
	return string(b)
}

func slow(p api.Packet) string { return rawOf(p).bytes() }

// short is a packet without its bulk, for what a test tells.
func short(p api.Packet) api.Packet {
	p.Options, p.Data = p.Options[:min(8, len(p.Options))], p.Data[:min(8, len(p.Data))]
	return p
}

// refused fails the test unless what was answered is nothing, beside that error.
func refused(t *testing.T, p api.Packet, e, want api.Code, what ...any) {
	t.Helper()
	if p != (api.Packet{}) || e != want {
		t.Errorf("%v: %v, %d, not %d", what, short(p), e, want)
	}
}

// 5.1: Check.
func TestCheck(t *testing.T) {
	for i, p := range right() {
		if e := ip.Check(p); e != api.OK {
			t.Errorf("right %d: %v: %d", i, short(p), e)
		}
	}
	for i, p := range wrong() {
		if e := ip.Check(p); e != api.ErrIP {
			t.Errorf("wrong %d: %v: %d", i, short(p), e)
		}
	}
}

// 5.1: Encode.
func TestEncode(t *testing.T) {
	for i, c := range []struct {
		p    api.Packet
		want string
	}{
		{api.Packet{}, "\x45\x00\x00\x14\x00\x00\x00\x00\x00\x00\xba\xeb\x00\x00\x00\x00\x00\x00\x00\x00"},
		{api.Packet{From: 10, To: 11, TTL: 64, Proto: api.ProtoTcp, Data: "ab"},
			"\x45\x00\x00\x16\x00\x00\x00\x00\x40\x06\x7a\xce\x00\x00\x00\x0a\x00\x00\x00\x0bab"},
		{api.Packet{From: 0xac100a63, To: 0xac100a0c, TTL: 64, Proto: 6, Ident: 0x1c46, Dont: true, Data: strings.Repeat("z", 40)},
			"\x45\x00\x00\x3c\x1c\x46\x40\x00\x40\x06\xb1\xe6\xac\x10\x0a\x63\xac\x10\x0a\x0c" + strings.Repeat("z", 40)},
	} {
		if s, e := ip.Encode(c.p); s != c.want || e != api.OK {
			t.Errorf("case %d: %q, %d", i, s, e)
		}
	}
	for i, p := range right() {
		if s, e := ip.Encode(p); s != slow(p) || len(s) != 20+len(p.Options)+len(p.Data) || e != api.OK {
			t.Errorf("right %d: %v: %d bytes, %d", i, short(p), len(s), e)
		}
	}
	for i, p := range wrong() {
		if s, e := ip.Encode(p); s != "" || e != api.ErrIP {
			t.Errorf("wrong %d: %v: %d bytes, %d", i, short(p), len(s), e)
		}
	}
}

// 5.1: Encode sets the flags at their places, whichever are set together.
func TestEncodeFlags(t *testing.T) {
	for _, frag := range []int{0, 1, 255, 256, 8190} {
		for want, p := range map[int]api.Packet{
			frag:         {Frag: frag, Data: "12345678"},
			frag + 8192:  {Frag: frag, Data: "12345678", More: true},
			frag + 16384: {Frag: frag, Data: "12345678", Dont: true},
			frag + 24576: {Frag: frag, Data: "12345678", Dont: true, More: true},
		} {
			s, e := ip.Encode(p)
			if e != api.OK || int(s[6])*256+int(s[7]) != want {
				t.Errorf("%v: %q, %d", p, s, e)
			}
		}
	}
}

// 5.1: Whole asks for nothing but Frag and More, of what may not be too.
func TestWhole(t *testing.T) {
	for i, c := range []struct {
		p    api.Packet
		want bool
	}{
		{api.Packet{}, true},
		{api.Packet{From: 10, To: 11, TTL: 64, Dont: true, Options: "abcd", Data: "ab"}, true},
		{api.Packet{Frag: 1}, false},
		{api.Packet{Frag: 8191, Data: "a"}, false},
		{api.Packet{More: true, Data: "12345678"}, false},
		{api.Packet{Frag: 1, More: true, Data: "12345678"}, false},
		{api.Packet{From: -1, Options: "a"}, true},
		{api.Packet{More: true}, false},
		{api.Packet{Frag: -1}, false},
		{api.Packet{Frag: 1 << 16}, false},
	} {
		if got := ip.Whole(c.p); got != c.want {
			t.Errorf("case %d: %v", i, got)
		}
	}
}

// 5.2: Decode, with bytes of any kind behind.
func TestDecode(t *testing.T) {
	for i, p := range right() {
		s := slow(p)
		for _, behind := range []string{"", "\x00", "more", "\xff\xff\xff", strings.Repeat("\x00", 46), s} {
			if q, e := ip.Decode(s + behind); q != p || e != api.OK {
				t.Errorf("right %d, %d behind: %v, %d", i, len(behind), short(q), e)
			}
		}
	}
	p := api.Packet{From: 10, To: 11, TTL: 64, Data: "ab"}
	if q, e := ip.Decode(slow(p) + strings.Repeat("x", 2*api.MaxBytes)); q != p || e != api.OK {
		t.Errorf("with very many bytes behind: %v, %d", short(q), e)
	}
}

// 5.2: Decode refuses bytes that are cut off, wherever.
func TestDecodeShort(t *testing.T) {
	for _, p := range []api.Packet{{}, {TTL: 64, Options: "abcdefgh", Data: "xyz"}, {Options: strings.Repeat("x", 40)}, {Frag: 7, More: true, Data: "12345678"}} {
		s := slow(p)
		for n := range s {
			q, e := ip.Decode(s[:n])
			refused(t, q, e, api.ErrIP, "the first bytes", n, "of", len(s))
		}
	}
}

// 5.2: Decode refuses each version but 4, and each length that does not fit, whatever the sum is.
func TestDecodeLengths(t *testing.T) {
	for _, tail := range []int{0, 1, 4, 39, 40, 41, 100} {
		for version := range 16 {
			for head := range 16 {
				for _, long := range []int{0, 1, 19, 20, 4*head - 1, 4 * head, 4*head + 1, 20 + tail - 1, 20 + tail, 20 + tail + 1, two} {
					if long < 0 {
						continue
					}
					r := raw{version: version, head: head, long: long, ttl: 7, from: 1, to: 2, behind: bytesOf(tail, tail)}
					s := r.bytes()
					q, e := ip.Decode(s)
					torn, tornE := ip.Decode(s[:8] + "\xaa" + s[9:])
					if version == 4 && head >= 5 && 4*head <= len(s) && long >= 4*head && long <= len(s) {
						want := api.Packet{TTL: 7, From: 1, To: 2, Options: s[20 : 4*head], Data: s[4*head : long]}
						if q != want || e != api.OK {
							t.Errorf("%d %d %d %d: %v, %d", tail, version, head, long, q, e)
						}
						refused(t, torn, tornE, api.ErrSum, "torn", tail, version, head, long)
						continue
					}
					refused(t, q, e, api.ErrIP, tail, version, head, long)
					refused(t, torn, tornE, api.ErrIP, "torn", tail, version, head, long)
				}
			}
		}
	}
}

// 5.2: Decode refuses a header of which one bit is another one, and takes data as they are.
func TestDecodeSum(t *testing.T) {
	for _, p := range []api.Packet{
		{From: 10, To: 11, TTL: 64, Proto: 6, Data: "ab"},
		{From: 10, To: 11, TTL: 64, Proto: 6, Ident: 77, Dont: true, Options: "abcdefgh", Data: "ab"},
		{From: four, To: four, TTL: 255, Frag: 5, More: true, Options: bytesOf(1, 40), Data: "12345678"},
	} {
		s, head := slow(p), 20+len(p.Options)
		for bit := range 8 * len(s) {
			b := []byte(s)
			b[bit/8] ^= 1 << (bit % 8)
			q, e := ip.Decode(string(b))
			switch {
			case bit/8 >= head:
				if q.Data != string(b[head:]) || e != api.OK {
					t.Errorf("bit %d: %v, %d", bit, q, e)
				}
			case bit/8 == 0 || bit/8 == 2 || bit/8 == 3:
				// These tell lengths, which may be refused ahead of the sum.
				if e != api.ErrSum && e != api.ErrIP || q != (api.Packet{}) {
					t.Errorf("bit %d: %v, %d", bit, q, e)
				}
			default:
				refused(t, q, e, api.ErrSum, "bit", bit)
			}
		}
	}
	s := slow(api.Packet{From: 10, To: 11, TTL: 64, Data: "ab"})
	q, e := ip.Decode(s[:10] + "\x00\x00" + s[12:])
	refused(t, q, e, api.ErrSum, "no sum")
	if q, e := ip.Decode(s[:10] + "\xff\xff" + s[12:]); e != api.ErrSum {
		t.Errorf("all bits of the sum: %v, %d", q, e)
	}
}

// 5.2: a sum of 65535 stands for 0 where one reads.
func TestDecodeOtherZero(t *testing.T) {
	p := api.Packet{From: 0xbaeb}
	s := slow(p)
	if s[10:12] != "\x00\x00" {
		t.Fatalf("%q has another sum", s)
	}
	if q, e := ip.Decode(s); q != p || e != api.OK {
		t.Errorf("%v, %d", q, e)
	}
	if q, e := ip.Decode(s[:10] + "\xff\xff" + s[12:]); q != p || e != api.OK {
		t.Errorf("as 65535: %v, %d", q, e)
	}
}

// 5.2: Decode refuses a second byte, a highest flag, and packets that may not be, but only once the sum is right.
func TestDecodeWrong(t *testing.T) {
	base := rawOf(api.Packet{From: 10, To: 11, TTL: 64, Proto: 6, Data: "12345678"})
	var rs []raw
	for n := 1; n < 256; n++ {
		r := base
		r.zero = n
		rs = append(rs, r)
	}
	for _, n := range []int{0x8000, 0xa000, 0xc000, 0xe000, 0x8001, 0x9fff} {
		r := base
		r.flags = n
		rs = append(rs, r)
	}
	for _, p := range []api.Packet{
		{More: true}, {More: true, Data: "1234567"}, {More: true, Data: "123456789"}, {More: true, Options: "abcd", Data: "1234"},
		{Frag: 8191, Data: "12345678"}, {Frag: 8191, More: true, Data: "12345678"}, {Frag: 8190, Dont: true, Data: strings.Repeat("x", 16)},
		{Frag: 3, Data: strings.Repeat("x", full)},
	} {
		rs = append(rs, rawOf(p))
	}
	for _, r := range rs {
		s := r.bytes()
		q, e := ip.Decode(s)
		refused(t, q, e, api.ErrIP, r.zero, r.flags, r.long)
		q, e = ip.Decode(s + "behind it")
		refused(t, q, e, api.ErrIP, r.zero, r.flags, r.long, "and more")
		q, e = ip.Decode(s[:8] + string([]byte{s[8] + 1}) + s[9:])
		refused(t, q, e, api.ErrSum, r.zero, r.flags, r.long, "torn")
	}
}

// 5.2: Decode tells something of whatever it is given.
func TestDecodeAnything(t *testing.T) {
	for seed := range 20000 {
		b := []byte(bytesOf(seed, seed%70))
		if len(b) > 3 && seed%2 == 0 {
			b[0], b[2], b[3] = 0x40|b[0]&7, 0, byte(len(b))
		}
		p, e := ip.Decode(string(b))
		if e == api.OK && ip.Check(p) != api.OK || e != api.OK && p != (api.Packet{}) || e != api.OK && e != api.ErrIP && e != api.ErrSum {
			t.Errorf("%q: %v, %d", b, p, e)
		}
	}
}

// 5.3: Pieces, as the words say them.
func TestPieces(t *testing.T) {
	tests := []struct {
		p    api.Packet
		most int
		want []api.Packet
	}{
		{api.Packet{}, 28, []api.Packet{{}}},
		{api.Packet{Data: "01234567"}, 28, []api.Packet{{Data: "01234567"}}},
		{api.Packet{Data: "0123456789"}, 28, []api.Packet{{More: true, Data: "01234567"}, {Frag: 1, Data: "89"}}},
		{api.Packet{Data: "0123456789"}, 29, []api.Packet{{More: true, Data: "01234567"}, {Frag: 1, Data: "89"}}},
		{api.Packet{Data: "0123456789"}, 30, []api.Packet{{Data: "0123456789"}}},
		{api.Packet{Data: "0123456789"}, two, []api.Packet{{Data: "0123456789"}}},
		{api.Packet{Data: "0123456701234567"}, 28, []api.Packet{{More: true, Data: "01234567"}, {Frag: 1, Data: "01234567"}}},
		{api.Packet{Data: "0123456701234567"}, 35, []api.Packet{{More: true, Data: "01234567"}, {Frag: 1, Data: "01234567"}}},
		{api.Packet{Data: "0123456701234567a"}, 36, []api.Packet{{More: true, Data: "0123456701234567"}, {Frag: 2, Data: "a"}}},
		{api.Packet{From: 1, To: 2, TTL: 3, Proto: 4, Ident: 5, Frag: 6, Options: "abcd", Data: "0123456789"}, 32, []api.Packet{
			{From: 1, To: 2, TTL: 3, Proto: 4, Ident: 5, Frag: 6, More: true, Options: "abcd", Data: "01234567"},
			{From: 1, To: 2, TTL: 3, Proto: 4, Ident: 5, Frag: 7, Options: "abcd", Data: "89"}}},
		{api.Packet{TTL: 5, Frag: 2, More: true, Data: "aaaaaaaabbbbbbbbbbbbbbbb"}, 39, []api.Packet{
			{TTL: 5, Frag: 2, More: true, Data: "aaaaaaaabbbbbbbb"}, {TTL: 5, Frag: 4, More: true, Data: "bbbbbbbb"}}},
		{api.Packet{Dont: true, Data: "01234567"}, 28, []api.Packet{{Dont: true, Data: "01234567"}}},
		{api.Packet{More: true, Dont: true, Frag: 9, Data: "01234567"}, 28, []api.Packet{{More: true, Dont: true, Frag: 9, Data: "01234567"}}},
		{api.Packet{Frag: 8190, Data: "012345678901234"}, 28, []api.Packet{{Frag: 8190, More: true, Data: "01234567"}, {Frag: 8191, Data: "8901234"}}},
	}
	for i, c := range tests {
		if ps, e := ip.Pieces(c.p, c.most); !slices.Equal(ps, c.want) || e != api.OK {
			t.Errorf("case %d: %v, %d", i, ps, e)
		}
	}
}

// 5.3: the last piece, too, has no more than the others, even where a few bytes more of it would fit.
func TestPiecesLast(t *testing.T) {
	want := []api.Packet{{More: true, Data: "01234567"}, {Frag: 1, More: true, Data: "01234567"}, {Frag: 2, Data: "abcd"}}
	if ps, e := ip.Pieces(api.Packet{Data: "0123456701234567abcd"}, 35); !slices.Equal(ps, want) || e != api.OK {
		t.Errorf("%v, %d", ps, e)
	}
}

// 5.3: what Pieces refuses, in its order.
func TestPiecesWrong(t *testing.T) {
	x20 := strings.Repeat("x", 20)
	for i, c := range []struct {
		p    api.Packet
		most int
		e    api.Code
	}{
		{api.Packet{}, 27, api.ErrRange},
		{api.Packet{}, 0, api.ErrRange},
		{api.Packet{}, -1, api.ErrRange},
		{api.Packet{}, two + 1, api.ErrRange},
		{api.Packet{}, math.MaxInt, api.ErrRange},
		{api.Packet{}, math.MinInt, api.ErrRange},
		{api.Packet{Options: "abcd"}, 31, api.ErrRange},
		{api.Packet{Options: "abcd"}, 32, api.OK},
		{api.Packet{Options: strings.Repeat("x", 40)}, 67, api.ErrRange},
		{api.Packet{Options: strings.Repeat("x", 40)}, 68, api.OK},
		{api.Packet{}, 28, api.OK},
		{api.Packet{}, two, api.OK},
		{api.Packet{Dont: true, Data: x20}, 27, api.ErrRange},
		{api.Packet{Dont: true, Data: x20}, 28, api.ErrLong},
		{api.Packet{Dont: true, Data: x20}, 32, api.ErrLong},
		{api.Packet{Dont: true, Data: x20}, 39, api.ErrLong},
		{api.Packet{Dont: true, Data: x20}, 40, api.OK},
		{api.Packet{Dont: true, Options: "abcd", Data: x20}, 43, api.ErrLong},
		{api.Packet{Dont: true, Options: "abcd", Data: x20}, 44, api.OK},
		{api.Packet{Dont: true, Data: strings.Repeat("x", full)}, two - 1, api.ErrLong},
		{api.Packet{Dont: true, Data: strings.Repeat("x", full)}, two, api.OK},
		{api.Packet{Dont: true, Data: strings.Repeat("x", full)}, two + 1, api.ErrRange},
	} {
		if ps, e := ip.Pieces(c.p, c.most); e != c.e || (e != api.OK) != (len(ps) == 0) {
			t.Errorf("case %d: %d pieces, %d", i, len(ps), e)
		}
	}
	for i, p := range wrong() {
		for _, most := range []int{-1, 27, 28, 1500, two, two + 1} {
			if ps, e := ip.Pieces(p, most); len(ps) != 0 || e != api.ErrIP {
				t.Errorf("wrong %d, %d: %d pieces, %d", i, most, len(ps), e)
			}
		}
	}
}

// 5.3 and 5.5: whatever the lengths, pieces fit, may be, have the same header, stand at their places, and have the packet's data.
func TestPiecesAll(t *testing.T) {
	for _, options := range []int{0, 4, 40} {
		for _, more := range []bool{false, true} {
			for long := range 70 {
				p := api.Packet{From: 10, To: 11, TTL: 64, Proto: 6, Ident: 9, Frag: 100, More: more, Options: bytesOf(options, options), Data: bytesOf(long, long)}
				if ip.Check(p) != api.OK {
					continue
				}
				for most := 28 + options; most < 28+options+75; most++ {
					checkPieces(t, p, most)
				}
			}
		}
	}
	for _, long := range []int{65511, 65512, 65513, full} {
		for _, most := range []int{28, 29, 576, 1499, 1500, 1501, 32768, two - 1, two} {
			checkPieces(t, api.Packet{TTL: 1, Ident: 7, Data: bytesOf(long, long)}, most)
		}
	}
	checkPieces(t, api.Packet{TTL: 1, Frag: 2, More: true, Data: bytesOf(3, 65512)}, 100)
}

func checkPieces(t *testing.T, p api.Packet, most int) {
	t.Helper()
	ps, e := ip.Pieces(p, most)
	if e != api.OK || len(ps) == 0 {
		t.Fatalf("%v, %d: %d pieces, %d", short(p), most, len(ps), e)
	}
	head := 20 + len(p.Options)
	if alone := head+len(p.Data) <= most; alone != (len(ps) == 1) {
		t.Fatalf("%v, %d: %d pieces", short(p), most, len(ps))
	}
	var data strings.Builder
	for i, q := range ps {
		last := i == len(ps)-1
		if !last && (!q.More || len(q.Data) != (most-head)/8*8) || last && q.More != p.More {
			t.Errorf("%v, %d: piece %d of %d: %v with %d", short(p), most, i, len(ps), q.More, len(q.Data))
		}
		if head+len(q.Data) > most || 8*q.Frag != 8*p.Frag+data.Len() || ip.Check(q) != api.OK {
			t.Errorf("%v, %d: piece %d of %d: %v with %d", short(p), most, i, len(ps), short(q), len(q.Data))
		}
		data.WriteString(q.Data)
		q.Frag, q.More, q.Data = p.Frag, p.More, p.Data
		if q != p {
			t.Errorf("%v, %d: piece %d of %d has another header: %v", short(p), most, i, len(ps), short(q))
		}
	}
	if data.String() != p.Data {
		t.Errorf("%v, %d: other data", short(p), most)
	}
}

// 5.3: an answer is new memory, its spare room too.
func TestPiecesAreNew(t *testing.T) {
	for _, long := range []int{0, 8, 17, 100} {
		p := api.Packet{Ident: 1, Data: bytesOf(1, long)}
		a, _ := ip.Pieces(p, 28)
		b, _ := ip.Pieces(p, 28)
		want := slices.Clone(b)
		whole := a[:cap(a)]
		for i := range whole {
			whole[i] = api.Packet{From: 99}
		}
		c, _ := ip.Pieces(p, 28)
		if !slices.Equal(b, want) || !slices.Equal(c, want) {
			t.Errorf("%d: pieces were changed from outside", long)
		}
	}
}

// 5.4: Hop.
func TestHop(t *testing.T) {
	for ttl := range 256 {
		p := api.Packet{From: 10, To: 11, TTL: ttl, Proto: 6, Ident: 7, Frag: 8, More: true, Dont: true, Options: "abcd", Data: "12345678"}
		q, e := ip.Hop(p)
		if ttl < 2 {
			refused(t, q, e, api.ErrRange, "TTL", ttl)
			continue
		}
		p.TTL = ttl - 1
		if q != p || e != api.OK {
			t.Errorf("TTL %d: %v, %d", ttl, q, e)
		}
	}
	for i, p := range wrong() {
		q, e := ip.Hop(p)
		refused(t, q, e, api.ErrIP, "wrong", i)
		if p.TTL == 0 {
			p.TTL = 64
			q, e = ip.Hop(p)
			refused(t, q, e, api.ErrIP, "wrong", i, "with a TTL")
		}
	}
}

// 5.5: there and back, pieces too.
func TestThereAndBack(t *testing.T) {
	seen := map[string]api.Packet{}
	for i, p := range right() {
		ps := []api.Packet{p}
		if !p.Dont {
			cut, e := ip.Pieces(p, 100)
			if e != api.OK {
				t.Fatalf("right %d: %d", i, e)
			}
			ps = append(ps, cut...)
		}
		for _, q := range ps {
			s, e := ip.Encode(q)
			if e != api.OK {
				t.Fatalf("%v: %d", short(q), e)
			}
			if other, there := seen[s]; there && other != q {
				t.Errorf("%v and %v have the same bytes", short(q), short(other))
			}
			seen[s] = q
			back, e := ip.Decode(s)
			if back != q || e != api.OK {
				t.Errorf("%v came back as %v, %d", short(q), short(back), e)
			}
			if again, e := ip.Encode(back); again != s || e != api.OK {
				t.Errorf("%v came back as other bytes, %d", short(q), e)
			}
		}
	}
}

// 5.5: pieces that are cut again are those of the packet's data still.
func TestPiecesOfPieces(t *testing.T) {
	p := api.Packet{From: 10, To: 11, TTL: 64, Data: bytesOf(5, 5000)}
	first, _ := ip.Pieces(p, 1500)
	var data string
	for _, q := range first {
		second, e := ip.Pieces(q, 107)
		if e != api.OK {
			t.Fatal(e)
		}
		for _, r := range second {
			if 8*r.Frag != len(data) {
				t.Errorf("a piece at %d, not at %d", 8*r.Frag, len(data))
			}
			data += r.Data
			if r.More != (len(data) < len(p.Data)) {
				t.Errorf("More at %d: %v", 8*r.Frag, r.More)
			}
		}
	}
	if len(first) != 4 || data != p.Data {
		t.Errorf("%d pieces, %d bytes", len(first), len(data))
	}
}
