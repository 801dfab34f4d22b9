package event_test

import (
	"math"
	"slices"
	"strings"
	"testing"

	"sternpost/api"
	"sternpost/event"
)

const (
	head       = 9 // bytes of an event ahead of its data
	mostEvents = 4096
	mostNow    = 1 << 40
	mostData   = 1514
)

// noTicks are numbers that are no ticks.
var noTicks = []int{-1, -2, mostNow + 1, 1<<48 - 1, 1 << 48, math.MinInt, math.MaxInt}

// noKinds are numbers of nothing that comes to a machine, some of them with the lowest byte of one that does.
var noKinds = []int{0, 3, 4, -1, -2, 255, 256, 257, 258, 1<<32 + 1, 1<<32 + 2, math.MinInt, math.MinInt + 1, math.MaxInt}

func tick(now int) api.Event { return api.Event{Kind: api.ETick, Now: now} }

func frame(now int, data string) api.Event {
	return api.Event{Kind: api.EFrame, Now: now, Data: data}
}

// long is so many bytes that differ.
func long(n int) string {
	b := make([]byte, n)
	for i := range b {
		b[i] = byte(i*7 + i/256)
	}
	return string(b)
}

// right are events, each with its bytes.
var right = []struct {
	x api.Event
	s string
}{
	{tick(0), "\x02" + "\x00\x00\x00\x00\x00\x00" + "\x00\x00"},
	{tick(5), "\x02" + "\x00\x00\x00\x00\x00\x05" + "\x00\x00"},
	{tick(0x0123456789), "\x02" + "\x00\x01\x23\x45\x67\x89" + "\x00\x00"},
	{tick(mostNow), "\x02" + "\x01\x00\x00\x00\x00\x00" + "\x00\x00"},
	{frame(0, ""), "\x01" + "\x00\x00\x00\x00\x00\x00" + "\x00\x00"},
	{frame(255, "\x00"), "\x01" + "\x00\x00\x00\x00\x00\xff" + "\x00\x01" + "\x00"},
	{frame(258, "abc"), "\x01" + "\x00\x00\x00\x00\x01\x02" + "\x00\x03" + "abc"},
	{frame(mostNow-1, "\x01\xff\n"), "\x01" + "\x00\xff\xff\xff\xff\xff" + "\x00\x03" + "\x01\xff\n"},
	{frame(1<<32, long(256)), "\x01" + "\x00\x01\x00\x00\x00\x00" + "\x01\x00" + long(256)},
	{frame(7, long(mostData-1)), "\x01" + "\x00\x00\x00\x00\x00\x07" + "\x05\xe9" + long(mostData-1)},
	{frame(7, long(mostData)), "\x01" + "\x00\x00\x00\x00\x00\x07" + "\x05\xea" + long(mostData)},
}

// wrong are events that may not be.
func wrong() []api.Event {
	all := []api.Event{{}, frame(5, long(mostData+1)), frame(5, long(1<<16)), frame(5, long(1<<16+3)), {Kind: api.ETick, Now: 5, Data: "\x00"}, {Kind: api.ETick, Now: 5, Data: long(mostData)}}
	for _, now := range noTicks {
		all = append(all, tick(now), frame(now, ""), frame(now, "abc"))
	}
	for _, kind := range noKinds {
		all = append(all, api.Event{Kind: kind, Now: 5}, api.Event{Kind: kind, Now: 5, Data: "abc"})
	}
	return all
}

// noBytes are bytes neither of an event nor of several ones.
func noBytes() []string {
	all := []string{
		"\x01", "x", long(head), long(100),
		"\x00" + right[1].s[1:], "\x03" + right[1].s[1:], "\xff" + right[6].s[1:], "\x02" + right[6].s[1:], // Kind
		"\x01" + "\x01\x00\x00\x00\x00\x01" + "\x00\x00", "\x02" + "\x01\x00\x00\x00\x00\x01" + "\x00\x00", "\x02" + "\xff\xff\xff\xff\xff\xff" + "\x00\x00", // Now
		"\x02" + "\x00\x00\x00\x00\x00\x05" + "\x00\x01" + "a", "\x02" + "\x00\x00\x00\x00\x00\x05" + "\x00\x01", // a tick with data
		"\x01" + "\x00\x00\x00\x00\x00\x05" + "\x05\xeb" + long(mostData+1), "\x01" + "\x00\x00\x00\x00\x00\x05" + "\xff\xff" + long(1<<16-1), // too much
		"\x01" + "\x00\x00\x00\x00\x00\x05" + "\x03\x00" + "abc", "\x01" + "\x05\x00\x00\x00\x00\x00" + "\x00\x00", // the lowest byte first
	}
	for _, x := range right {
		all = append(all, x.s+"\x00", "\x00"+x.s)
		for k := 1; k < min(len(x.s), 20); k++ {
			all = append(all, x.s[:k], x.s[:len(x.s)-k])
		}
	}
	return all
}

// 23.1
func TestCheck(t *testing.T) {
	for _, x := range right {
		if e := event.Check(x.x); e != api.OK {
			t.Errorf("%+v: %d", x.x, e)
		}
	}
	for _, x := range wrong() {
		if e := event.Check(x); e != api.ErrEvent {
			t.Errorf("%+v: %d", x, e)
		}
	}
}

// 23.1, and example 1.
func TestEncode(t *testing.T) {
	for _, x := range right {
		if s, e := event.Encode(x.x); s != x.s || e != api.OK {
			t.Errorf("%+v: %q, %d, want %q", x.x, s, e, x.s)
		}
	}
	for _, x := range wrong() {
		if s, e := event.Encode(x); s != "" || e != api.ErrEvent {
			t.Errorf("%+v: %q, %d", x, s, e)
		}
	}
}

// 23.1
func TestDecode(t *testing.T) {
	for _, x := range right {
		if y, e := event.Decode(x.s); y != x.x || e != api.OK {
			t.Errorf("%q: %+v, %d, want %+v", x.s, y, e, x.x)
		}
	}
	for _, s := range append(noBytes(), "", right[1].s+right[1].s, right[6].s+right[1].s, right[1].s+right[6].s) {
		if y, e := event.Decode(s); y != (api.Event{}) || e != api.ErrEvent {
			t.Errorf("%q: %+v, %d", s, y, e)
		}
	}
}

// parts looks what events these bytes are.
func parts(t *testing.T, s string, want ...api.Event) {
	t.Helper()
	if l, e := event.Parts(s); e != api.OK || !slices.Equal(l, want) {
		t.Errorf("Parts of %d bytes: %d events, %d, want %d", len(s), len(l), e, len(want))
	}
}

func partsRefused(t *testing.T, s string, want api.Code) {
	t.Helper()
	if l, e := event.Parts(s); len(l) != 0 || e != want {
		t.Errorf("Parts of %d bytes, %q ..: %+v, %d, want %d", len(s), s[:min(len(s), 20)], l, e, want)
	}
}

// 23.3: ticks may fall here, and an event may be there twice.
func TestParts(t *testing.T) {
	parts(t, "")
	var s string
	var all []api.Event
	for _, x := range right {
		parts(t, x.s, x.x)
		parts(t, x.s+x.s, x.x, x.x)
		s, all = x.s+s, append([]api.Event{x.x}, all...)
		parts(t, s, all...)
	}
	for _, bad := range noBytes() {
		if len(s)+len(bad) <= api.MaxBytes {
			partsRefused(t, bad, api.ErrEvent)
			partsRefused(t, right[6].s+bad, api.ErrEvent)
			partsRefused(t, s+bad, api.ErrEvent)
		}
	}
	partsRefused(t, s[:len(s)-1], api.ErrEvent)
	partsRefused(t, s+"\x02", api.ErrEvent)
}

// 23.3: what is too long is that first, whatever it is.
func TestPartsOfMuch(t *testing.T) {
	full := strings.Repeat(right[1].s, 7281) // 65529 bytes
	one, _ := event.Encode(frame(9, long(api.MaxBytes-7280*head-head)))
	most := full[head:] + one
	if len(most) != api.MaxBytes {
		t.Fatal(len(most))
	}
	l, e := event.Parts(most)
	if e != api.OK || len(l) != 7281 || l[7279] != tick(5) || l[7280].Now != 9 {
		t.Error(len(l), e)
	}
	partsRefused(t, full+"1234567", api.ErrEvent)
	partsRefused(t, full+right[1].s, api.ErrLong)
	partsRefused(t, most+"x", api.ErrLong)
	for _, n := range []int{api.MaxBytes + 1, 1 << 20} {
		partsRefused(t, strings.Repeat("x", n), api.ErrLong)
		partsRefused(t, strings.Repeat("\x00", n), api.ErrLong)
	}
	partsRefused(t, strings.Repeat("x", api.MaxBytes), api.ErrEvent)
}
