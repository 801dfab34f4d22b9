package parse_test

import (
	"errors"
	"math"
	"reflect"
	"strings"
	"testing"

	"sternpost/api"
	"sternpost/arp"
	"sternpost/ether"
	"sternpost/icmp"
	"sternpost/ip"
	"sternpost/parse"
	"sternpost/seg"
)

const (
	two  = 1<<16 - 1 // the greatest number of two bytes
	four = 1<<32 - 1
)

// must is an answer of a lower layer that may not be refused.
func must[T any](x T, c api.Code) T {
	if c != api.OK {
		panic(c)
	}
	return x
}

// framed is the bytes of a frame from 2 to 1.
func framed(kind int, data string) string {
	return must(ether.Encode(api.Frame{To: 1, From: 2, Type: kind, Data: data}))
}

// carried is the bytes of a frame with that packet.
func carried(p api.Packet) string { return framed(api.TypeIP, must(ip.Encode(p))) }

// resealed is a header's bytes with the sum at that place that belongs to them, whatever else is wrong with them.
func resealed(s string, at int) string {
	b := []byte(s)
	b[at], b[at+1] = 0, 0
	n := 0
	for i, x := range b {
		n += int(x) << (8 * (1 - i%2))
	}
	for n > two {
		n = n>>16 + n&two
	}
	b[at], b[at+1] = byte((two-n)>>8), byte(two-n)
	return string(b)
}

// changed is s with other bytes at a place.
func changed(s string, at int, b ...byte) string { return s[:at] + string(b) + s[at+len(b):] }

// resegmented is a segment's bytes with the sum that belongs to 10 and 11, whatever else is wrong with them.
func resegmented(s string) string {
	ahead := "\x00\x00\x00\x0a\x00\x00\x00\x0b\x00\x06" + string([]byte{byte(len(s) >> 8), byte(len(s))})
	return resealed(ahead+s, len(ahead)+16)[len(ahead):]
}

// empty tells whether nothing is told.
func empty(x api.Parsed) bool { return reflect.DeepEqual(x, api.Parsed{}) }

// same compares all parts; of ranges only which they are, not whether a list without one is nil.
func same(a, b api.Parsed) bool {
	if len(a.Segment.Opts.Sacks) == 0 && len(b.Segment.Opts.Sacks) == 0 {
		a.Segment.Opts.Sacks, b.Segment.Opts.Sacks = nil, nil
	}
	return reflect.DeepEqual(a, b)
}

// refused looks whether an answer is just the error that is asked for: one Fail around one number, and nothing beside it.
func refused(t *testing.T, what any, x api.Parsed, e error, c api.Code, layer string, at int) {
	t.Helper()
	f, ok := e.(*api.Fail)
	if !ok || f == nil {
		t.Errorf("%#v: %v, want a Fail of %v, %v, %v", what, e, layer, at, int(c))
		return
	}
	if f.Layer != layer || f.At != at || f.Err != error(c) || !empty(x) {
		t.Errorf("%#v: %v, %v, %#v beside %#v, want %v, %v, %v", what, f.Layer, f.At, f.Err, x, layer, at, int(c))
	}
}

// segments are TCP segments that may be.
func segments() []api.Segment {
	full := strings.Repeat("\xa5", api.MaxData)
	return []api.Segment{
		{},
		{From: 80, To: 9, Seq: 5, Flags: api.SYN},
		{From: 80, To: 9, Seq: 5, Ack: 6, Flags: api.SYN + api.ACK, Window: 1024, Opts: api.Opts{MSS: 536, SackOK: true}},
		{From: two, To: two, Seq: four, Ack: four, Flags: 63, Window: two, Urgent: two, Data: "abc"},
		{Flags: api.ACK, Ack: 7, Opts: api.Opts{Stamped: true, Stamp: 1, Echo: four, Sacks: []api.Range{{From: 1, To: 2}, {From: four, To: 0}}}, Data: "x"},
		{Flags: api.RST}, {Flags: api.FIN + api.ACK, Ack: 1}, {Opts: api.Opts{Scaled: true}},
		{Data: "\x00"}, {Data: full[:1440]},
	}
}

// messages are ICMP packets that may be.
func messages() []api.Icmp {
	return []api.Icmp{
		{}, {Type: 8, A: 1, B: 2}, {Type: 8, A: two, B: two, Data: "ping"}, {Type: 255, Code: 255, A: two, B: two, Data: "\x00"},
		{Type: 3, Code: 3, Data: strings.Repeat("q", 28)}, {Type: 11, Data: strings.Repeat("\xff", 1432)},
	}
}

// packets are whole packets with that data, as differing as whole ones may be.
func packets(proto int, data string) []api.Packet {
	return []api.Packet{
		{From: 10, To: 11, Proto: proto, Data: data},
		{From: 10, To: 11, TTL: 64, Ident: two, Dont: true, Proto: proto, Options: "\x01\x01\x01\x00", Data: data},
		{From: 10, To: 11, TTL: 255, Proto: proto, Options: strings.Repeat("\xff", 40), Data: data},
	}
}

// heads are frames' ends, as differing as they may be.
func heads() []api.Frame {
	return []api.Frame{{To: 1, From: 2}, {To: api.Everyone, From: 0}, {To: 0, From: 0xfeffffffffff}, {To: 0x0123456789ab, From: 0x0a0203040506}}
}

// reads puts a packet in frames of all heads, with and without something behind it, and looks whether it is read as want, and alike by Inner.
func reads(t *testing.T, p api.Packet, want api.Parsed) {
	t.Helper()
	want.Packet = p
	x, e := parse.Inner(p)
	if e != nil || !same(x, want) {
		t.Errorf("Inner(%#v): %#v, %v", p, x, e)
	}
	for _, f := range heads() {
		for _, behind := range []string{"", "padding"} {
			f.Type, f.Data = api.TypeIP, must(ip.Encode(p))+behind
			if len(f.Data) > 1500 {
				continue
			}
			want.Frame = f
			x, e := parse.Parse(must(ether.Encode(f)))
			if e != nil || !same(x, want) {
				t.Errorf("Parse(%#v): %#v, %v", f, x, e)
			}
		}
	}
}

// TestLayers asks for 9.4, and of 9.1 and 9.2 for what is right.
func TestLayers(t *testing.T) {
	for _, s := range segments() {
		for _, p := range packets(api.ProtoTcp, must(seg.Encode(10, 11, s))) {
			reads(t, p, api.Parsed{Kind: api.PTcp, Segment: s})
		}
	}
	for _, m := range messages() {
		for _, p := range packets(api.ProtoIcmp, must(icmp.Encode(m))) {
			reads(t, p, api.Parsed{Kind: api.PIcmp, Icmp: m})
		}
	}
}

// TestAddresses asks of 9.2 that a segment is read between the packet's own addresses, at their edges too.
func TestAddresses(t *testing.T) {
	for _, from := range []int{0, 1, 10, 1 << 31, four} {
		for _, to := range []int{0, 2, 11, 0x01020304, four} {
			s := api.Segment{From: 1, To: 2, Seq: 3, Data: "odd"}
			p := api.Packet{From: from, To: to, Proto: api.ProtoTcp, Data: must(seg.Encode(from, to, s))}
			reads(t, p, api.Parsed{Kind: api.PTcp, Segment: s})
			p.To = to ^ 4
			x, e := parse.Inner(p)
			refused(t, p, x, e, api.ErrSum, "tcp", 20)
		}
	}
}

// TestPieces asks of 9.2 that a piece is one, whatever its Proto names and its data are.
func TestPieces(t *testing.T) {
	syn := must(seg.Encode(10, 11, api.Segment{Flags: api.SYN, Opts: api.Opts{MSS: 536}}))
	for _, proto := range []int{0, api.ProtoIcmp, api.ProtoTcp, 17, 255} {
		for _, p := range []api.Packet{
			{Frag: 1}, {Frag: 2, Data: "x"}, {Frag: 8191}, {Frag: 8191, Data: "1234567"}, {Frag: 1, More: true, Data: "12345678"},
			{More: true, Data: "12345678"}, {More: true, Data: syn}, {Frag: 1, Data: syn}, {Frag: 3, Options: "\x00\x00\x00\x00", Dont: true},
		} {
			p.From, p.To, p.Proto = 10, 11, proto
			reads(t, p, api.Parsed{Kind: api.PPiece})
		}
	}
}

// TestArp asks of 9.1 and 9.4 for ARP, with what may stand behind it.
func TestArp(t *testing.T) {
	as := []api.Arp{must(arp.Ask(2, 10, 11)), must(arp.Claim(3, 10)), {Op: api.ArpTell, FromMac: 0xfeffffffffff, FromIP: four, ToMac: api.Everyone, ToIP: four}}
	as = append(as, must(arp.Tell(as[0], 3)))
	for _, a := range as {
		for _, f := range heads() {
			for _, behind := range []int{0, 1, 17, 18} {
				f.Type, f.Data = api.TypeArp, must(arp.Encode(a))+strings.Repeat("\xee", behind)
				x, e := parse.Parse(must(ether.Encode(f)))
				if e != nil || !same(x, api.Parsed{Kind: api.PArp, Frame: f, Arp: a}) {
					t.Errorf("Parse(%#v): %#v, %v", f, x, e)
				}
			}
		}
	}
}

// TestBytes asks of 9.1 for bytes that are written out here, and not by the layers below.
func TestBytes(t *testing.T) {
	ether := "\x00\x00\x00\x00\x00\x01" + "\x00\x00\x00\x00\x00\x02"
	header := "\x45\x00\x00\x1c" + "\x00\x00\x00\x00" + "\x40\x01" + "\x7a\xcd" + "\x00\x00\x00\x0a" + "\x00\x00\x00\x0b"
	echo := "\x08\x00\xf7\xfc\x00\x01\x00\x02"
	x, e := parse.Parse(ether + "\x08\x00" + header + echo)
	want := api.Parsed{
		Kind:   api.PIcmp,
		Frame:  api.Frame{To: 1, From: 2, Type: api.TypeIP, Data: header + echo},
		Packet: api.Packet{From: 10, To: 11, TTL: 64, Proto: 1, Data: echo},
		Icmp:   api.Icmp{Type: 8, A: 1, B: 2},
	}
	if e != nil || !same(x, want) {
		t.Errorf("%#v, %v", x, e)
	}
	ask := "\x00\x01\x08\x00\x06\x04\x00\x01\x00\x00\x00\x00\x00\x02\x00\x00\x00\x0a\x00\x00\x00\x00\x00\x00\x00\x00\x00\x0b"
	x, e = parse.Parse(ether + "\x08\x06" + ask)
	want = api.Parsed{
		Kind:  api.PArp,
		Frame: api.Frame{To: 1, From: 2, Type: api.TypeArp, Data: ask},
		Arp:   api.Arp{Op: 1, FromMac: 2, FromIP: 10, ToIP: 11},
	}
	if e != nil || !same(x, want) {
		t.Errorf("%#v, %v", x, e)
	}
	x, e = parse.Parse("")
	refused(t, "no bytes", x, e, api.ErrEther, "ether", 0)
}

// TestFrames asks of 9.1 for what is refused as ether and as arp.
func TestFrames(t *testing.T) {
	ask := must(arp.Encode(must(arp.Ask(2, 10, 11))))
	frame := framed(api.TypeArp, ask)
	for i, x := range []struct {
		s     string
		c     api.Code
		layer string
		at    int
	}{
		{"", api.ErrEther, "ether", 0}, {"x", api.ErrEther, "ether", 0}, {frame[:13], api.ErrEther, "ether", 0},
		{framed(api.TypeIP, strings.Repeat("x", 1500)) + "x", api.ErrEther, "ether", 0}, {strings.Repeat("\x08", 2*api.MaxBytes), api.ErrEther, "ether", 0},
		{changed(frame, 6, 1), api.ErrEther, "ether", 0}, {changed(frame, 12, 5, 255), api.ErrEther, "ether", 0}, {changed(frame, 12, 0, 0), api.ErrEther, "ether", 0},
		{framed(1536, ""), api.ErrOther, "ether", 0}, {framed(two, ""), api.ErrOther, "ether", 0}, {framed(0x86dd, ask), api.ErrOther, "ether", 0},
		{framed(api.TypeIP-1, ask), api.ErrOther, "ether", 0}, {framed(api.TypeIP+1, ask), api.ErrOther, "ether", 0},
		{framed(api.TypeArp-1, ask), api.ErrOther, "ether", 0}, {framed(api.TypeArp+1, ask), api.ErrOther, "ether", 0},
		{framed(0x0608, strings.Repeat("x", 1500)), api.ErrOther, "ether", 0},
		{framed(api.TypeArp, ""), api.ErrArp, "arp", 14}, {framed(api.TypeArp, ask[:27]), api.ErrArp, "arp", 14},
		{framed(api.TypeArp, ask+strings.Repeat("x", 19)), api.ErrArp, "arp", 14}, {framed(api.TypeArp, strings.Repeat("x", 1500)), api.ErrArp, "arp", 14},
		{framed(api.TypeArp, changed(ask, 0, 1)), api.ErrArp, "arp", 14}, {framed(api.TypeArp, changed(ask, 7, 0)), api.ErrArp, "arp", 14},
		{framed(api.TypeArp, changed(ask, 7, 3)), api.ErrArp, "arp", 14}, {framed(api.TypeArp, changed(ask, 8, 1)), api.ErrArp, "arp", 14},
		{framed(api.TypeArp, must(ip.Encode(api.Packet{Proto: 1}))), api.ErrArp, "arp", 14},
	} {
		got, e := parse.Parse(x.s)
		refused(t, i, got, e, x.c, x.layer, x.at)
	}
}

// TestHeaders asks of 9.1 for what is refused as ip.
func TestHeaders(t *testing.T) {
	ping := must(icmp.Encode(api.Icmp{Type: 8}))
	header := must(ip.Encode(api.Packet{From: 10, To: 11, TTL: 9, Proto: 1, Data: ping}))
	again := func(at int, b ...byte) string { return resealed(changed(header, at, b...)[:20], 10) + ping }
	for i, x := range []struct {
		s string
		c api.Code
	}{
		{"", api.ErrIP}, {"x", api.ErrIP}, {header[:19], api.ErrIP}, {header[:27], api.ErrIP}, {must(arp.Encode(must(arp.Ask(2, 10, 11)))), api.ErrIP},
		{again(0, 0x55), api.ErrIP}, {again(0, 0x44), api.ErrIP}, {again(0, 0x4f), api.ErrIP}, {again(2, 0, 19), api.ErrIP}, {again(2, 0, 29), api.ErrIP},
		{changed(header, 8, 10), api.ErrSum}, {changed(header, 10, 0, 0), api.ErrSum}, {changed(header, 1, 1), api.ErrSum},
		{again(1, 1), api.ErrIP}, {again(6, 0x80), api.ErrIP}, {again(2, 0, 20, 0, 0, 0x20), api.ErrIP}, {again(2, 0, 21, 0, 0, 0x20), api.ErrIP}, {again(2, 0, 28, 0, 0, 0x1f, 0xff), api.ErrIP},
		{again(9, 0), api.ErrOther}, {again(9, 2), api.ErrOther}, {again(9, 5), api.ErrOther}, {again(9, 7), api.ErrOther}, {again(9, 17), api.ErrOther}, {again(9, 255), api.ErrOther},
	} {
		got, e := parse.Parse(framed(api.TypeIP, x.s))
		refused(t, i, got, e, x.c, "ip", 14)
	}
	if x, e := parse.Parse(framed(api.TypeIP, again(9, 1))); e != nil || x.Kind != api.PIcmp {
		t.Errorf("%v, %v: what is sealed again should be right but for the change", x, e)
	}
}

// TestWithin asks of 9.1 and 9.2 for what is refused as icmp and tcp, at all places that these begin.
func TestWithin(t *testing.T) {
	ping := must(icmp.Encode(api.Icmp{Type: 8, Data: "odd"}))
	syn := must(seg.Encode(10, 11, api.Segment{Flags: api.SYN, Opts: api.Opts{MSS: 536}, Data: "data"}))
	for options := 0; options <= 40; options += 4 {
		for i, x := range []struct {
			proto int
			data  string
			c     api.Code
			layer string
		}{
			{api.ProtoIcmp, "", api.ErrIcmp, "icmp"}, {api.ProtoIcmp, ping[:7], api.ErrIcmp, "icmp"}, {api.ProtoIcmp, ping[:8], api.ErrSum, "icmp"},
			{api.ProtoIcmp, changed(ping, 0, 0), api.ErrSum, "icmp"}, {api.ProtoIcmp, ping + "x", api.ErrSum, "icmp"}, {api.ProtoIcmp, syn, api.ErrSum, "icmp"},
			{api.ProtoTcp, "", api.ErrSeg, "tcp"}, {api.ProtoTcp, syn[:19], api.ErrSeg, "tcp"}, {api.ProtoTcp, ping, api.ErrSeg, "tcp"},
			{api.ProtoTcp, syn[:20], api.ErrSeg, "tcp"}, {api.ProtoTcp, resegmented(changed(syn, 12, 0x40)), api.ErrSeg, "tcp"}, {api.ProtoTcp, resegmented(changed(syn, 12, 0xf0)), api.ErrSeg, "tcp"},
			{api.ProtoTcp, changed(syn, 0, 1), api.ErrSum, "tcp"}, {api.ProtoTcp, syn + "x", api.ErrSum, "tcp"}, {api.ProtoTcp, syn[:24], api.ErrSum, "tcp"},
			{api.ProtoTcp, resegmented(changed(syn, 21, 1)), api.ErrOpts, "tcp"}, {api.ProtoTcp, resegmented(changed(syn, 12, 0x61, 2)), api.ErrSeg, "tcp"},
			{api.ProtoTcp, resegmented(changed(syn, 21, 1, 2, 3)), api.ErrOpts, "tcp"}, {api.ProtoTcp, resegmented(changed(changed(syn, 12, 0x61), 21, 1)), api.ErrOpts, "tcp"},
			{api.ProtoTcp, resegmented(changed(syn, 13, 64)), api.ErrSeg, "tcp"}, {api.ProtoTcp, resegmented(changed(syn, 8, 1)), api.ErrSeg, "tcp"},
			{0, ping, api.ErrOther, "ip"}, {17, syn, api.ErrOther, "ip"}, {255, "", api.ErrOther, "ip"},
		} {
			p := api.Packet{From: 10, To: 11, Proto: x.proto, Options: strings.Repeat("\x01", options), Data: x.data}
			at := 20 + options
			if x.layer == "ip" {
				at = 0
			}
			got, e := parse.Inner(p)
			refused(t, i, got, e, x.c, x.layer, at)
			got, e = parse.Parse(carried(p))
			refused(t, i, got, e, x.c, x.layer, 14+at)
		}
	}
}

// TestLong asks of 9.2 for packets that no frame has room for: only of such can be too much within.
func TestLong(t *testing.T) {
	m := api.Icmp{Type: 8, Data: strings.Repeat("\x00", 65500)}
	p := api.Packet{Proto: api.ProtoIcmp, Data: must(icmp.Encode(m))[:65000]}
	if x, e := parse.Inner(p); e != nil || !same(x, api.Parsed{Kind: api.PIcmp, Packet: p, Icmp: api.Icmp{Type: 8, Data: m.Data[:64992]}}) {
		t.Error(x.Kind, e)
	}
	p.Data = p.Data + strings.Repeat("\x00", 65509-len(p.Data))
	x, e := parse.Inner(p)
	refused(t, "longest", x, e, api.ErrIcmp, "icmp", 20)
	s := api.Segment{Data: strings.Repeat("x", api.MaxData)}
	p = api.Packet{From: 10, To: 11, Proto: api.ProtoTcp, Data: must(seg.Encode(10, 11, s))}
	if x, e := parse.Inner(p); e != nil || !same(x, api.Parsed{Kind: api.PTcp, Packet: p, Segment: s}) {
		t.Error(x.Kind, e)
	}
	p.Data = resegmented(p.Data + "x")
	x, e = parse.Inner(p)
	refused(t, "one byte more", x, e, api.ErrSeg, "tcp", 20)
	p.Data = resegmented(p.Data + strings.Repeat("x", 40))
	x, e = parse.Inner(p)
	refused(t, "beyond the most", x, e, api.ErrSeg, "tcp", 20)
}

// TestNoPacket asks of 9.2 that what may not be is refused first, whether it would be whole, and whatever it has.
func TestNoPacket(t *testing.T) {
	ps := []api.Packet{
		{TTL: 256}, {Proto: 256}, {Ident: two + 1}, {Frag: 8192}, {Options: "x"}, {Options: strings.Repeat("\x00", 44)}, {More: true}, {More: true, Data: "1234567"},
		{Frag: 8191, Data: "12345678"}, {Data: strings.Repeat("x", two-19)}, {Data: strings.Repeat("x", 2*api.MaxBytes)}, {Proto: 17, TTL: -1},
	}
	for _, n := range []int{-1, four + 1, math.MinInt, math.MaxInt} {
		ps = append(ps, api.Packet{From: n}, api.Packet{To: n}, api.Packet{TTL: n}, api.Packet{Proto: n}, api.Packet{Ident: n}, api.Packet{Frag: n})
	}
	for i, p := range ps {
		for _, proto := range []int{p.Proto, api.ProtoTcp, api.ProtoIcmp} {
			if p.Proto == 0 || p.Proto == 17 {
				p.Proto = proto
			}
			x, e := parse.Inner(p)
			refused(t, i, x, e, api.ErrIP, "ip", 0)
		}
	}
}

// slow is Parse, as the words say it, by the layers' own calls.
func slow(s string) (x api.Parsed, c api.Code, layer string, at int) {
	f, c := ether.Decode(s)
	if c != api.OK {
		return x, c, "ether", 0
	}
	if f.Type != api.TypeIP && f.Type != api.TypeArp {
		return x, api.ErrOther, "ether", 0
	}
	if f.Type == api.TypeArp {
		a, c := arp.Decode(f.Data)
		if c != api.OK {
			return x, c, "arp", 14
		}
		return api.Parsed{Kind: api.PArp, Frame: f, Arp: a}, c, "", 0
	}
	p, c := ip.Decode(f.Data)
	if c != api.OK {
		return x, c, "ip", 14
	}
	whole := api.Parsed{Frame: f, Packet: p}
	at = 34 + len(p.Options)
	switch {
	case p.Frag != 0 || p.More:
		whole.Kind = api.PPiece
	case p.Proto == 1:
		layer, whole.Kind = "icmp", api.PIcmp
		whole.Icmp, c = icmp.Decode(p.Data)
	case p.Proto == 6:
		layer, whole.Kind = "tcp", api.PTcp
		whole.Segment, c = seg.Decode(p.From, p.To, p.Data)
	default:
		return x, api.ErrOther, "ip", 14
	}
	if c != api.OK {
		return x, c, layer, at
	}
	return whole, c, "", 0
}

// TestTorn asks of 9.1, and of P1, for frames that are cut off, or changed in a byte, at all places.
func TestTorn(t *testing.T) {
	const headEnd = 14 + 24 // all packets here have four bytes of options
	var all []string
	for _, s := range segments()[:6] {
		all = append(all, carried(packets(api.ProtoTcp, must(seg.Encode(10, 11, s)))[1]))
	}
	all = append(all, carried(packets(api.ProtoIcmp, must(icmp.Encode(messages()[2])))[1]), carried(api.Packet{Proto: 17, Frag: 1, Options: "\x01\x01\x01\x00", Data: "x"}),
		framed(api.TypeArp, must(arp.Encode(must(arp.Ask(2, 10, 11))))+"behind"))
	look := func(s string) {
		t.Helper()
		want, c, layer, at := slow(s)
		x, e := parse.Parse(s)
		if c != api.OK {
			refused(t, []byte(s), x, e, c, layer, at)
		} else if e != nil || !same(x, want) {
			t.Errorf("%v: %#v, %v", []byte(s), x, e)
		}
	}
	for _, s := range all {
		for at := range len(s) {
			look(s[:at])
			look(s[at:])
			for bit := range 8 {
				b := changed(s, at, s[at]^1<<bit)
				look(b)
				if at >= 14 && at < headEnd && len(s) >= headEnd { // so that what lies behind a header's sum is seen, too
					look(b[:14] + resealed(b[14:headEnd], 10) + b[headEnd:])
				}
			}
		}
	}
}

// TestNew asks of R4 and R7 that answers share nothing, and are the same again.
func TestNew(t *testing.T) {
	s := api.Segment{Flags: api.ACK, Opts: api.Opts{Sacks: []api.Range{{From: 1, To: 2}, {From: 3, To: 4}}}}
	frame := carried(api.Packet{From: 10, To: 11, Proto: api.ProtoTcp, Data: must(seg.Encode(10, 11, s))})
	a, _ := parse.Parse(frame)
	a.Segment.Opts.Sacks[0].From = 9
	_ = append(a.Segment.Opts.Sacks[:1], api.Range{})
	if b, e := parse.Parse(frame); e != nil || !seg.Same(b.Segment, s) {
		t.Error(b, e)
	}
	_, e := parse.Parse("")
	_, again := parse.Parse("")
	var f *api.Fail
	if !errors.As(e, &f) || e == again {
		t.Fatal(e, again)
	}
	f.Layer, f.At, f.Err = "other", 9, api.ErrFull
	refused(t, "again", api.Parsed{}, again, api.ErrEther, "ether", 0)
}
