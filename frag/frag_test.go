package frag_test

import (
	"math"
	"slices"
	"strings"
	"testing"

	"sternpost/api"
	"sternpost/frag"
	"sternpost/ip"
)

const mostLong = api.MaxBytes - 1 // the most bytes of a packet, header and all

var (
	// noTicks are none at which something may be taken or waited for.
	noTicks = []int{-1, -2, api.MaxTick + 1, math.MinInt, math.MinInt + 1, math.MaxInt, math.MaxInt - 1}

	// farNumbers are neither a room nor a patience.
	farNumbers = []int{0, -1, -2, 1<<20 + 1, 1 << 32, 1<<32 + 1, math.MinInt, math.MinInt + 1, math.MaxInt, math.MaxInt - 1}
)

// text is so many bytes, each unlike those near it, as they stand from a place on in a packet.
func text(at, long int) string {
	var s strings.Builder
	for i := at; i < at+long; i++ {
		s.WriteByte(byte('0' + (i*7+i/64)%75))
	}
	return s.String()
}

// piece is the bytes from a place, a multiple of 8, up to another one, of the packet with that number.
func piece(ident, from, to int, more bool) api.Packet {
	return api.Packet{From: 10, To: 11, TTL: 9, Proto: api.ProtoTcp, Ident: ident, Frag: from / 8, More: more, Data: text(from, to-from)}
}

// body is a piece behind which others come, tail one at which the packet ends.
func body(from, to int) api.Packet { return piece(1, from, to, true) }

func tail(from, to int) api.Packet { return piece(1, from, to, false) }

// packet is a whole one, of so many bytes of data.
func packet(ident, long int) api.Packet { return piece(ident, 0, long, false) }

// made is a box that may not be refused.
func made(t *testing.T, room, patience int) *frag.Box {
	t.Helper()
	b, e := frag.New(room, patience)
	if e != api.OK || b == nil {
		t.Fatalf("New(%d, %d): %d", room, patience, e)
	}
	return b
}

// short tells packets apart without all of their bytes.
func short(p api.Packet) api.Packet {
	if len(p.Data) > 40 {
		p.Data = p.Data[:40] + ".."
	}
	return p
}

// keeps looks whether pieces come, and nothing comes of them.
func keeps(t *testing.T, b *frag.Box, now int, ps ...api.Packet) {
	t.Helper()
	for _, p := range ps {
		if whole, ok, e := b.Take(p, now); whole != (api.Packet{}) || ok || e != api.OK {
			t.Errorf("Take %v, tick %d: %v, %v, %d, want nothing", short(p), now, short(whole), ok, e)
		}
	}
}

// gives looks whether a packet is whole by a piece.
func gives(t *testing.T, b *frag.Box, now int, p, want api.Packet) {
	t.Helper()
	if whole, ok, e := b.Take(p, now); whole != want || !ok || e != api.OK {
		t.Errorf("Take %v, tick %d: %v (%d bytes), %v, %d, want %v (%d bytes)", short(p), now, short(whole), len(whole.Data), ok, e, short(want), len(want.Data))
	}
}

// refuses looks whether a packet is refused.
func refuses(t *testing.T, b *frag.Box, now int, p api.Packet, want api.Code) {
	t.Helper()
	if whole, ok, e := b.Take(p, now); whole != (api.Packet{}) || ok || e != want {
		t.Errorf("Take %v, tick %d: %v, %v, %d, want error %d", short(p), now, short(whole), ok, e, want)
	}
}

// ticks looks whether just these pieces are told.
func ticks(t *testing.T, b *frag.Box, now int, want ...api.Packet) {
	t.Helper()
	if late, e := b.Tick(now); !slices.Equal(late, want) || e != api.OK {
		t.Errorf("Tick %d: %v, %d, want %v", now, late, e, want)
	}
}

func tickRefused(t *testing.T, b *frag.Box, now int) {
	t.Helper()
	if late, e := b.Tick(now); len(late) != 0 || e != api.ErrRange {
		t.Errorf("Tick %d: %v, %d, want error %d", now, late, e, api.ErrRange)
	}
}

// has looks how many packets are being put together.
func has(t *testing.T, b *frag.Box, want int) {
	t.Helper()
	if n := b.Len(); n != want {
		t.Errorf("Len: %d, want %d", n, want)
	}
}

// 12.1
func TestNew(t *testing.T) {
	for _, room := range []int{1, 2, 63, 64} {
		for _, patience := range []int{1, 2, 1<<20 - 1, 1 << 20} {
			has(t, made(t, room, patience), 0)
		}
	}
	for _, n := range append(farNumbers, 65) {
		newRefused(t, n, 1)
		newRefused(t, n, 0)
	}
	for _, n := range farNumbers {
		newRefused(t, 1, n)
		newRefused(t, 64, n)
	}
}

func newRefused(t *testing.T, room, patience int) {
	t.Helper()
	if b, e := frag.New(room, patience); b != nil || e != api.ErrRange {
		t.Errorf("New(%d, %d): %v, %d, want error %d", room, patience, b, e, api.ErrRange)
	}
}

// 12.1: so many packets as there is room for are put together, and no more.
func TestRoom(t *testing.T) {
	for _, room := range []int{1, 2, 63, 64} {
		b := made(t, room, 10)
		for i := range room {
			has(t, b, i)
			keeps(t, b, 0, piece(i, 0, 8, true))
		}
		refuses(t, b, 0, piece(room, 0, 8, true), api.ErrFull)
		has(t, b, room)
		gives(t, b, 0, packet(room, 8), packet(room, 8))
		for i := range room {
			keeps(t, b, 0, piece(i, 8, 16, true))
		}
		gives(t, b, 0, piece(0, 16, 20, false), packet(0, 20))
		has(t, b, room-1)
		keeps(t, b, 0, piece(room, 0, 8, true))
		refuses(t, b, 0, piece(0, 0, 8, true), api.ErrFull)
		has(t, b, room)
	}
}

// 12.1: two boxes have nothing to do with each other.
func TestTwoBoxes(t *testing.T) {
	a, b := made(t, 1, 10), made(t, 1, 10)
	keeps(t, a, 5, body(0, 8))
	has(t, b, 0)
	keeps(t, b, 0, tail(8, 9))
	gives(t, a, 5, tail(8, 9), packet(1, 9))
	has(t, b, 1)
}

// Chapter 12, example 1.
func TestExample(t *testing.T) {
	b := made(t, 1, 1)
	keeps(t, b, 0, tail(8, 10))
	gives(t, b, 0, body(0, 8), packet(1, 10))
	has(t, b, 0)
}

// 12.2: a whole packet comes out as it came in, whatever is put together.
func TestWhole(t *testing.T) {
	b := made(t, 1, 10)
	keeps(t, b, 0, body(0, 8))
	for _, p := range []api.Packet{
		{},
		packet(1, 0),
		packet(1, 8),
		packet(1, mostLong-20),
		{From: 1<<32 - 1, To: 1<<32 - 1, TTL: 255, Proto: 255, Ident: 65535, Dont: true, Options: text(0, 40), Data: text(0, mostLong-60)},
	} {
		gives(t, b, 0, p, p)
		has(t, b, 1)
	}
	gives(t, b, 0, tail(8, 9), packet(1, 9))
}

// badPackets may not be, each for one thing.
func badPackets() []api.Packet {
	change := []func(p *api.Packet){
		func(p *api.Packet) { p.From = -1 },
		func(p *api.Packet) { p.From = 1 << 32 },
		func(p *api.Packet) { p.To = -1 },
		func(p *api.Packet) { p.To = 1 << 32 },
		func(p *api.Packet) { p.TTL = -1 },
		func(p *api.Packet) { p.TTL = 256 },
		func(p *api.Packet) { p.Proto = -1 },
		func(p *api.Packet) { p.Proto = 256 },
		func(p *api.Packet) { p.Ident = -1 },
		func(p *api.Packet) { p.Ident = 65536 },
		func(p *api.Packet) { p.Frag = -1 },
		func(p *api.Packet) { p.Frag = 8192 },
		func(p *api.Packet) { p.Frag = math.MinInt },
		func(p *api.Packet) { p.Frag = math.MaxInt },
		func(p *api.Packet) { p.Options = "123" },
		func(p *api.Packet) { p.Options = text(0, 44) },
		func(p *api.Packet) { p.Data = "" },
		func(p *api.Packet) { p.Data = "1234567" },
		func(p *api.Packet) { p.Data = text(0, 65520) },
		func(p *api.Packet) { p.Frag = 8191 },
	}
	var bad []api.Packet
	for _, f := range change {
		p := body(8, 16)
		f(&p)
		bad = append(bad, p)
	}
	return bad
}

// 12.2: a packet that may not be is refused ahead of all else, and nothing is known of it.
func TestBadPackets(t *testing.T) {
	b := made(t, 1, 10)
	keeps(t, b, 5, body(0, 8))
	for _, p := range badPackets() {
		if ip.Check(p) != api.ErrIP {
			t.Fatalf("%v may be", short(p))
		}
		refuses(t, b, 5, p, api.ErrIP)
		refuses(t, b, 4, p, api.ErrIP)
		refuses(t, b, 1000, p, api.ErrIP)
		for _, now := range noTicks {
			refuses(t, b, now, p, api.ErrIP)
		}
	}
	has(t, b, 1)
	gives(t, b, 5, tail(8, 9), packet(1, 9))
}

// 12.2, 12.3: which ticks may be.
func TestTicks(t *testing.T) {
	b := made(t, 2, 1<<20)
	for _, now := range noTicks {
		refuses(t, b, now, body(0, 8), api.ErrRange)
		refuses(t, b, now, packet(1, 8), api.ErrRange)
		tickRefused(t, b, now)
	}
	keeps(t, b, 0, body(0, 8))
	keeps(t, b, 7, body(8, 16))
	for _, now := range append(noTicks, 0, 6) {
		refuses(t, b, now, body(16, 24), api.ErrRange)
		refuses(t, b, now, body(8, 24), api.ErrRange)
		refuses(t, b, now, packet(1, 8), api.ErrRange)
		tickRefused(t, b, now)
	}
	ticks(t, b, 7)
	ticks(t, b, 9)
	refuses(t, b, 8, body(16, 24), api.ErrRange)
	gives(t, b, 9, tail(16, 18), packet(1, 18))
	ticks(t, b, api.MaxTick)
	keeps(t, b, api.MaxTick, body(0, 8))
	refuses(t, b, api.MaxTick-1, body(8, 16), api.ErrRange)
	refuses(t, b, api.MaxTick+1, body(8, 16), api.ErrRange)
	ticks(t, b, api.MaxTick)
	has(t, b, 1)
}

// 12.2: no later call may be of an earlier tick, whatever became of the one that came then, but for one that was refused ahead of that.
func TestTicksOfAllCalls(t *testing.T) {
	for name, call := range map[string]func(b *frag.Box){
		"whole":  func(b *frag.Box) { gives(t, b, 9, packet(3, 8), packet(3, 8)) },
		"new":    func(b *frag.Box) { keeps(t, b, 9, piece(2, 8, 16, true)) },
		"next":   func(b *frag.Box) { keeps(t, b, 9, body(8, 16)) },
		"twice":  func(b *frag.Box) { keeps(t, b, 9, body(0, 8)) },
		"last":   func(b *frag.Box) { gives(t, b, 9, tail(8, 9), packet(1, 9)) },
		"clash":  func(b *frag.Box) { refuses(t, b, 9, body(0, 16), api.ErrFrag) },
		"tick":   func(b *frag.Box) { ticks(t, b, 9) },
		"no end": func(b *frag.Box) { refuses(t, b, 9, tail(65528, 65535), api.ErrFrag) },
	} {
		b := made(t, 2, 100)
		keeps(t, b, 3, body(0, 8))
		call(b)
		refuses(t, b, 8, packet(4, 8), api.ErrRange)
		tickRefused(t, b, 8)
		gives(t, b, 9, packet(4, 8), packet(4, 8))
		if t.Failed() {
			t.Fatal(name)
		}
	}
	b := made(t, 1, 100)
	keeps(t, b, 3, body(0, 8))
	refuses(t, b, 9, piece(2, 0, 8, true), api.ErrFull)
	refuses(t, b, 8, packet(4, 8), api.ErrRange)
	refuses(t, b, 20, body(0, 7), api.ErrIP)
	refuses(t, b, api.MaxTick+1, body(8, 16), api.ErrRange)
	gives(t, b, 9, packet(4, 8), packet(4, 8))
}

// 12.2: pieces belong together by From, To, Proto and Ident, and by nothing else.
func TestBelong(t *testing.T) {
	for i, f := range []func(p *api.Packet){
		func(p *api.Packet) { p.From = 11 },
		func(p *api.Packet) { p.To = 10 },
		func(p *api.Packet) { p.Proto = api.ProtoIcmp },
		func(p *api.Packet) { p.Ident = 2 },
		func(p *api.Packet) { p.From, p.To = p.To, p.From },
		func(p *api.Packet) { p.Ident, p.Proto = p.Proto, p.Ident },
	} {
		b := made(t, 2, 10)
		first, last, both := body(0, 8), tail(8, 12), packet(1, 12)
		f(&first)
		f(&last)
		f(&both)
		keeps(t, b, 0, body(0, 8), last)
		has(t, b, 2)
		gives(t, b, 0, tail(8, 12), packet(1, 12))
		gives(t, b, 0, first, both)
		has(t, b, 0)
		if t.Failed() {
			t.Fatal(i)
		}
	}
}

// marked is a piece with a header that tells it from others of its packet.
func marked(p api.Packet, ttl int, options string, dont bool) api.Packet {
	p.TTL, p.Options, p.Dont = ttl, options, dont
	return p
}

// 12.2: the whole packet has the header of the piece at 0, whenever that comes.
func TestHeader(t *testing.T) {
	for _, dont := range []bool{false, true} {
		first := marked(body(0, 8), 5, "abcd", dont)
		middle := marked(body(8, 16), 6, "efgh1234", !dont)
		last := marked(tail(16, 20), 7, "", !dont)
		want := marked(packet(1, 20), 5, "abcd", dont)
		for _, order := range [][3]api.Packet{
			{first, middle, last}, {first, last, middle}, {middle, first, last},
			{middle, last, first}, {last, first, middle}, {last, middle, first},
		} {
			b := made(t, 1, 10)
			keeps(t, b, 0, order[:2]...)
			gives(t, b, 0, order[2], want)
			has(t, b, 0)
		}
	}
}

// 12.2: a piece that is there already is passed over, whatever its header; the one that came first holds.
func TestTwice(t *testing.T) {
	b := made(t, 1, 10)
	keeps(t, b, 0, body(0, 8), tail(16, 20))
	for _, p := range []api.Packet{body(0, 8), tail(16, 20)} {
		keeps(t, b, 1, p, p, marked(p, 200, "", false), marked(p, 9, "abcd", false), marked(p, 9, "", true))
		has(t, b, 1)
	}
	gives(t, b, 1, body(8, 16), packet(1, 20))
	keeps(t, b, 1, body(8, 16))
	has(t, b, 1)
}

// 12.2: what is passed over is not looked at for its length: it is there by another header.
func TestTwiceTooLong(t *testing.T) {
	b := made(t, 1, 10)
	keeps(t, b, 0, tail(65504, 65515))
	keeps(t, b, 0, marked(tail(65504, 65515), 9, text(0, 40), false))
	has(t, b, 1)
}

// 12.2: one that is the same but for place, data or More is not passed over.
func TestAlmostTwice(t *testing.T) {
	other := body(8, 24)
	other.Data = text(9, 16)
	for _, p := range []api.Packet{body(8, 16), body(8, 32), tail(8, 24), tail(8, 23), other} {
		b := made(t, 1, 10)
		keeps(t, b, 0, body(8, 24))
		refuses(t, b, 0, p, api.ErrFrag)
		has(t, b, 0)
	}
	b := made(t, 1, 10)
	again := body(24, 32)
	again.Data = text(8, 8)
	keeps(t, b, 0, body(8, 16), again)
	keeps(t, b, 0, body(0, 8), body(16, 24))
	gives(t, b, 0, tail(32, 33), api.Packet{From: 10, To: 11, TTL: 9, Proto: api.ProtoTcp, Ident: 1, Data: text(0, 24) + text(8, 8) + text(32, 1)})
}

// 12.2: which pieces overlap, in both orders.
func TestOverlap(t *testing.T) {
	there := body(16, 40)
	for _, p := range []api.Packet{body(0, 24), body(8, 24), body(8, 40), body(8, 48), body(16, 24), body(16, 48), body(24, 32), body(24, 40), body(24, 48), body(32, 40), body(32, 56), tail(8, 41), tail(16, 41), tail(32, 41), tail(32, 45), body(0, 56)} {
		clash(t, there, p)
	}
	for _, p := range []api.Packet{body(0, 8), body(0, 16), body(8, 16), body(40, 48), body(48, 56), tail(40, 41), tail(48, 50), tail(40, 40), tail(48, 48)} {
		agree(t, there, p)
	}
}

// 12.2: an end may be told once, ahead of no data, in both orders; one more piece may tell the same one.
func TestEnd(t *testing.T) {
	for _, x := range [][2]api.Packet{
		{tail(16, 20), body(24, 32)}, // data behind the end
		{tail(16, 20), body(80, 88)},
		{tail(16, 16), body(16, 24)},
		{tail(16, 16), body(8, 24)},
		{tail(16, 24), body(24, 32)},
		{tail(16, 20), tail(24, 28)}, // another end
		{tail(16, 20), tail(8, 12)},
		{tail(16, 20), tail(24, 24)},
		{tail(16, 20), tail(16, 16)},
		{tail(16, 20), tail(8, 8)},
		{tail(16, 16), tail(24, 24)},
		{tail(16, 24), tail(16, 16)},
		{tail(16, 16), tail(8, 15)},
		{tail(16, 16), tail(8, 17)},
		{tail(16, 20), tail(16, 21)},
		{tail(16, 16), body(8, 32)}, // an end in the midst of data
		{tail(16, 16), body(32, 40)},
		{tail(16, 23), body(24, 32)},
	} {
		clash(t, x[0], x[1])
	}
	for _, x := range [][2]api.Packet{
		{tail(16, 20), body(8, 16)},
		{tail(16, 24), body(8, 16)},
		{tail(16, 16), body(8, 16)},
		{tail(24, 24), body(8, 16)},
		{tail(16, 16), tail(8, 16)},
		{tail(24, 24), tail(8, 24)},
		{tail(24, 24), body(16, 24)},
	} {
		agree(t, x[0], x[1])
	}
}

// clash looks whether two pieces do not fit together, and what was there is let go, and nothing else.
func clash(t *testing.T, p, q api.Packet) {
	t.Helper()
	for _, x := range [][2]api.Packet{{p, q}, {q, p}} {
		b := made(t, 2, 10)
		keeps(t, b, 0, piece(2, 0, 8, true), x[0])
		refuses(t, b, 0, x[1], api.ErrFrag)
		has(t, b, 1)
		keeps(t, b, 0, x[1])
		has(t, b, 2)
		refuses(t, b, 0, x[0], api.ErrFrag)
		gives(t, b, 0, piece(2, 8, 12, false), packet(2, 12))
		has(t, b, 0)
	}
}

func agree(t *testing.T, p, q api.Packet) {
	t.Helper()
	for _, x := range [][2]api.Packet{{p, q}, {q, p}} {
		b := made(t, 1, 10)
		keeps(t, b, 0, x[0], x[1], x[0], x[1])
		has(t, b, 1)
	}
}

// 12.2: a piece without data tells an end, overlaps nothing, and may complete a packet, or be there ahead of that.
func TestNoData(t *testing.T) {
	b := made(t, 1, 10)
	keeps(t, b, 0, body(0, 8), body(8, 16))
	gives(t, b, 0, tail(16, 16), packet(1, 16))
	keeps(t, b, 0, tail(16, 16), body(8, 16))
	gives(t, b, 0, body(0, 8), packet(1, 16))
	keeps(t, b, 0, tail(8, 16), tail(16, 16), tail(16, 16))
	gives(t, b, 0, body(0, 8), packet(1, 16))
	keeps(t, b, 0, tail(16, 16), tail(8, 16))
	gives(t, b, 0, body(0, 8), packet(1, 16))
	keeps(t, b, 0, tail(8, 8))
	gives(t, b, 0, body(0, 8), packet(1, 8))
	has(t, b, 0)
}

// 12.2: a piece's end and its own header have at most 65535 bytes together.
func TestTooLong(t *testing.T) {
	for _, options := range []int{0, 4, 20, 40} {
		o := text(0, options)
		most := mostLong - 20 - options
		at := most / 8 * 8
		fine := []api.Packet{tail(at, most), tail(at-8, most), body(at-8, at), tail(at, at), tail(8, most)}
		long := []api.Packet{tail(at, most+1), tail(at-8, most+1), body(at-8, at+8), body(at, at+8), tail(at+8, at+8), tail(16, most+1), tail(65528, 65528), tail(65528, 65535)}
		for _, p := range fine {
			b := made(t, 1, 10)
			keeps(t, b, 0, marked(p, 9, o, false))
			has(t, b, 1)
		}
		for _, p := range long {
			p = marked(p, 9, o, false)
			if ip.Check(p) != api.OK {
				continue
			}
			b := made(t, 1, 10)
			refuses(t, b, 0, p, api.ErrFrag)
			has(t, b, 0)
			keeps(t, b, 0, marked(body(0, 8), 9, o, false))
			refuses(t, b, 0, p, api.ErrFrag)
			has(t, b, 0)
			keeps(t, b, 0, piece(2, 0, 8, true))
			refuses(t, b, 0, p, api.ErrFull)
			has(t, b, 1)
		}
	}
}

// 12.2: it is a piece's own header that is looked at, not that of the piece at 0.
func TestOwnHeader(t *testing.T) {
	b := made(t, 1, 10)
	o := text(0, 40)
	keeps(t, b, 0, marked(body(0, 8), 9, o, false), body(8, 32768))
	gives(t, b, 0, tail(32768, mostLong-20), marked(packet(1, mostLong-20), 9, o, false))
	keeps(t, b, 0, body(0, 8), body(8, 32768))
	refuses(t, b, 0, marked(tail(32768, mostLong-20), 9, "abcd", false), api.ErrFrag)
	has(t, b, 0)
}

// 12.2: the longest packet of all comes whole.
func TestLongest(t *testing.T) {
	b := made(t, 1, 10)
	at := 0
	for ; at+1480 < mostLong-20; at += 1480 {
		keeps(t, b, 0, body(at, at+1480))
	}
	gives(t, b, 0, tail(at, mostLong-20), packet(1, mostLong-20))
}

// row is so many pieces of 8 bytes, from a place on.
func row(from, n int) []api.Packet {
	var ps []api.Packet
	for i := range n {
		ps = append(ps, body(from+8*i, from+8*i+8))
	}
	return ps
}

// 12.2: a packet has at most 64 pieces; one that is passed over is none more, and one without data is one, too.
func TestManyPieces(t *testing.T) {
	b := made(t, 1, 10)
	keeps(t, b, 0, row(0, 63)...)
	gives(t, b, 0, tail(504, 505), packet(1, 505))

	keeps(t, b, 0, row(0, 63)...)
	gives(t, b, 0, tail(504, 504), packet(1, 504))

	keeps(t, b, 0, row(0, 64)...)
	keeps(t, b, 0, row(0, 64)...)
	has(t, b, 1)
	refuses(t, b, 0, tail(512, 513), api.ErrFrag)
	has(t, b, 0)

	keeps(t, b, 0, row(0, 64)...)
	refuses(t, b, 0, tail(512, 512), api.ErrFrag)

	keeps(t, b, 0, row(8, 63)...)
	keeps(t, b, 0, tail(512, 512))
	has(t, b, 1)
	refuses(t, b, 0, body(0, 8), api.ErrFrag)
	has(t, b, 0)

	keeps(t, b, 0, row(8, 62)...)
	keeps(t, b, 0, tail(504, 504))
	gives(t, b, 0, body(0, 8), packet(1, 504))
}

// 12.2: of what was let go, or came whole, nothing is left: it begins anew.
func TestAnew(t *testing.T) {
	b := made(t, 2, 10)
	keeps(t, b, 0, body(0, 8), tail(16, 20))
	refuses(t, b, 0, body(8, 24), api.ErrFrag)
	has(t, b, 0)
	keeps(t, b, 0, body(8, 16))
	keeps(t, b, 0, tail(24, 30), marked(body(0, 8), 3, "", true))
	gives(t, b, 0, body(16, 24), marked(packet(1, 30), 3, "", true))
	keeps(t, b, 0, tail(8, 9))
	gives(t, b, 0, body(0, 8), packet(1, 9))
	has(t, b, 0)
}

// 12.2: no room is said ahead of what else is wrong with the first piece of a packet, but not of a packet that there is room for.
func TestFull(t *testing.T) {
	b := made(t, 1, 10)
	keeps(t, b, 0, body(0, 8))
	refuses(t, b, 0, piece(2, 65528, 65535, false), api.ErrFull)
	refuses(t, b, 0, piece(2, 0, 8, true), api.ErrFull)
	refuses(t, b, 0, piece(2, 8, 8, false), api.ErrFull)
	keeps(t, b, 0, body(0, 8))
	has(t, b, 1)
	refuses(t, b, 0, body(0, 16), api.ErrFrag)
	keeps(t, b, 0, piece(2, 0, 8, true))
	refuses(t, b, 0, body(0, 8), api.ErrFull)
	has(t, b, 1)
}

// 12.2: one that took too long has its room, and may be completed, till a tick is told.
func TestNoTickNoEnd(t *testing.T) {
	b := made(t, 1, 10)
	keeps(t, b, 0, body(0, 8))
	refuses(t, b, 50, piece(2, 0, 8, true), api.ErrFull)
	keeps(t, b, 50, body(8, 16))
	gives(t, b, 60, tail(16, 17), packet(1, 17))
}

// 12.3: a packet is let go its patience's ticks after its first piece came, and not sooner, whatever came since.
func TestPatience(t *testing.T) {
	for _, patience := range []int{1, 2, 10, 1 << 20} {
		b := made(t, 4, patience)
		ticks(t, b, 0)
		keeps(t, b, 7, body(0, 8))
		ticks(t, b, 7)
		keeps(t, b, 7+patience-1, body(0, 8), body(16, 24))
		ticks(t, b, 7+patience-1)
		has(t, b, 1)
		ticks(t, b, 7+patience, body(0, 8))
		has(t, b, 0)
		ticks(t, b, 7+patience)
		keeps(t, b, 7+patience, body(0, 8))
		ticks(t, b, 7+2*patience+5, body(0, 8))
		has(t, b, 0)
		ticks(t, b, api.MaxTick)
	}
}

// 12.3: only those with a piece at 0 are told, by that, as it came first; the others are let go, too.
func TestLate(t *testing.T) {
	b := made(t, 9, 10)
	keeps(t, b, 0, piece(1, 8, 16, true), piece(2, 8, 16, true), piece(3, 8, 9, false), piece(4, 8, 8, false))
	first := marked(piece(2, 0, 8, true), 3, "abcd", true)
	keeps(t, b, 4, first, piece(2, 0, 8, true), piece(2, 24, 32, true))
	keeps(t, b, 4, piece(5, 0, 8, true))
	ticks(t, b, 9)
	has(t, b, 5)
	ticks(t, b, 10, first)
	has(t, b, 1)
	ticks(t, b, 13)
	ticks(t, b, 14, piece(5, 0, 8, true))
	has(t, b, 0)
}

// 12.3: in the order in which they began, whatever their numbers and the order of their pieces at 0.
func TestLateOrder(t *testing.T) {
	b := made(t, 64, 10)
	numbers := []int{40, 3, 65535, 0, 17, 9, 2, 63, 1, 5}
	for _, n := range numbers {
		keeps(t, b, 3, piece(n, 8, 16, true))
	}
	rising := slices.Sorted(slices.Values(numbers))
	for _, n := range rising {
		keeps(t, b, 5, piece(n, 0, 8, true))
	}
	keeps(t, b, 6, piece(8, 0, 8, true))
	// Two begin anew: one that was refused, and one that came whole.
	refuses(t, b, 6, piece(3, 0, 16, true), api.ErrFrag)
	gives(t, b, 6, piece(17, 16, 17, false), packet(17, 17))
	keeps(t, b, 6, piece(17, 0, 8, true), piece(3, 0, 8, true))
	var want []api.Packet
	for _, n := range []int{40, 65535, 0, 9, 2, 63, 1, 5, 8, 17, 3} {
		want = append(want, piece(n, 0, 8, true))
	}
	has(t, b, 11)
	ticks(t, b, 16, want...)
	has(t, b, 0)
}

// 12.3: those that began at later ticks are told behind the others, and some of them stay.
func TestLateOverTicks(t *testing.T) {
	b := made(t, 64, 10)
	for i := range 30 {
		keeps(t, b, i, piece(100-i, 0, 8, true))
	}
	var want []api.Packet
	for i := range 20 {
		want = append(want, piece(100-i, 0, 8, true))
	}
	ticks(t, b, 29, want...)
	has(t, b, 10)
}

// R4: what was told is the caller's: the box and later answers share nothing with it.
func TestMemory(t *testing.T) {
	b := made(t, 9, 10)
	for i := range 4 {
		keeps(t, b, i, piece(i, 0, 8, true))
	}
	late, _ := b.Tick(11)
	if len(late) != 2 {
		t.Fatal(late)
	}
	scribble(late)
	ticks(t, b, 13, piece(2, 0, 8, true), piece(3, 0, 8, true))
}

// scribble writes on a list, spare room too.
func scribble(list []api.Packet) {
	list = list[:cap(list)]
	for i := range list {
		list[i] = packet(99, 3)
	}
}
