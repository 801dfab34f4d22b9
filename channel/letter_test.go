package channel_test

import (
	"encoding/binary"
	"hash/crc32"
	"math"
	"testing"

	"sternpost/api"
	"sternpost/channel"
)

const (
	mostData = 4096
	mostWord = 1<<32 - 1
	mostNow  = 1 << 40
)

// noWords are numbers that four bytes do not have.
var noWords = []int{-1, -2, mostWord + 1, mostWord + 2, 1 << 33, math.MinInt, math.MaxInt}

// noRoles are numbers of no role, some of them with the lowest byte of one.
var noRoles = []int{-1, 6, 7, 255, 256, 257, 260, 1 << 32, math.MinInt, math.MaxInt}

// noKinds are numbers of no letter, likewise.
var noKinds = []int{0, 3, 4, -1, -2, 255, 256, 257, 258, 1<<32 + 1, 1<<32 + 2, math.MinInt, math.MaxInt}

// long is so many bytes that differ.
func long(n int) string {
	b := make([]byte, n)
	for i := range b {
		b[i] = byte(i*7 + i/256)
	}
	return string(b)
}

// checked is s with its check behind it.
func checked(s string) string {
	return string(binary.LittleEndian.AppendUint32([]byte(s), crc32.ChecksumIEEE([]byte(s))))
}

// right are letters, each with its bytes ahead of the check.
var right = []struct {
	x api.Letter
	s string
}{
	{api.Letter{Kind: api.LBeat}, "\x02" + "\x00\x00\x00\x00" + "\x00" + "\x00\x00\x00\x00" + "\x00\x00\x00\x00" + "\x00\x00"},
	{api.Letter{Kind: api.LData, Number: 1}, "\x01" + "\x00\x00\x00\x00" + "\x00" + "\x00\x00\x00\x01" + "\x00\x00\x00\x00" + "\x00\x00"},
	{api.Letter{Kind: api.LData, Epoch: 0x01020304, Role: api.Joining, Number: 0x05060708, Ack: 0x090a0b0c, Data: "abc"}, "\x01" + "\x01\x02\x03\x04" + "\x01" + "\x05\x06\x07\x08" + "\x09\x0a\x0b\x0c" + "\x00\x03" + "abc"},
	{api.Letter{Kind: api.LBeat, Epoch: 0xfffefdfc, Role: api.Backup, Number: 0xfbfaf9f8, Ack: 0xf7f6f5f4}, "\x02" + "\xff\xfe\xfd\xfc" + "\x02" + "\xfb\xfa\xf9\xf8" + "\xf7\xf6\xf5\xf4" + "\x00\x00"},
	{api.Letter{Kind: api.LData, Epoch: 7, Role: api.Primary, Number: mostWord, Ack: mostWord, Data: "\x00"}, "\x01" + "\x00\x00\x00\x07" + "\x03" + "\xff\xff\xff\xff" + "\xff\xff\xff\xff" + "\x00\x01" + "\x00"},
	{api.Letter{Kind: api.LBeat, Epoch: mostWord, Role: api.Solo, Number: mostWord, Ack: 1}, "\x02" + "\xff\xff\xff\xff" + "\x04" + "\xff\xff\xff\xff" + "\x00\x00\x00\x01" + "\x00\x00"},
	{api.Letter{Kind: api.LData, Epoch: 1, Role: api.Fenced, Number: 256, Ack: 1 << 31, Data: "\n\xff\x01\x02"}, "\x01" + "\x00\x00\x00\x01" + "\x05" + "\x00\x00\x01\x00" + "\x80\x00\x00\x00" + "\x00\x04" + "\n\xff\x01\x02"},
	{api.Letter{Kind: api.LData, Epoch: 1, Role: 3, Number: 2, Data: long(256)}, "\x01" + "\x00\x00\x00\x01" + "\x03" + "\x00\x00\x00\x02" + "\x00\x00\x00\x00" + "\x01\x00" + long(256)},
	{api.Letter{Kind: api.LData, Epoch: 1, Role: 3, Number: 2, Data: long(mostData - 1)}, "\x01" + "\x00\x00\x00\x01" + "\x03" + "\x00\x00\x00\x02" + "\x00\x00\x00\x00" + "\x0f\xff" + long(mostData-1)},
	{api.Letter{Kind: api.LData, Epoch: 1, Role: 3, Number: 2, Data: long(mostData)}, "\x01" + "\x00\x00\x00\x01" + "\x03" + "\x00\x00\x00\x02" + "\x00\x00\x00\x00" + "\x10\x00" + long(mostData)},
}

// wrong are letters that may not be.
func wrong() []api.Letter {
	all := []api.Letter{
		{}, {Kind: api.LData}, {Kind: api.LData, Epoch: 1, Role: 1, Ack: 1, Data: "x"},
		{Kind: api.LBeat, Data: "\x00"}, {Kind: api.LBeat, Number: 1, Data: long(mostData)},
		{Kind: api.LData, Number: 1, Data: long(mostData + 1)}, {Kind: api.LData, Number: 1, Data: long(1 << 16)}, {Kind: api.LData, Number: 1, Data: long(1<<16 + 3)},
	}
	for _, kind := range []int{api.LData, api.LBeat} {
		for _, n := range noWords {
			all = append(all, api.Letter{Kind: kind, Epoch: n, Number: 1}, api.Letter{Kind: kind, Number: n}, api.Letter{Kind: kind, Number: 1, Ack: n})
		}
		for _, n := range noRoles {
			all = append(all, api.Letter{Kind: kind, Role: n, Number: 1})
		}
	}
	for _, n := range noKinds {
		all = append(all, api.Letter{Kind: n, Number: 1}, api.Letter{Kind: n, Number: 1, Data: "x"})
	}
	return all
}

// noLetters are bytes of no letter, though a check that is right stands behind most of them.
func noLetters() []string {
	all := []string{"", "x", long(4), long(19), long(20), long(23), long(4116), long(4117), checked(""), checked(long(15))}
	for _, s := range []string{
		"\x00" + right[2].s[1:], "\x03" + right[2].s[1:], "\xff" + right[2].s[1:], "\x02" + right[2].s[1:], // Kind
		right[2].s[:5] + "\x06" + right[2].s[6:], right[3].s[:5] + "\xff" + right[3].s[6:], // Role
		right[1].s[:6] + "\x00\x00\x00\x00" + right[1].s[10:],                                                                                          // Number
		right[2].s[:14] + "\x00\x02" + "abc", right[2].s[:14] + "\x00\x04" + "abc", right[2].s[:14] + "\x03\x00" + "abc", right[0].s[:14] + "\x00\x01", // too long, too short
		right[2].s[:14] + "\x10\x01" + long(mostData+1), right[2].s[:14] + "\xff\xff" + long(1<<16-1), right[2].s[:14] + "\x00\x00" + long(1<<16), // too much
		right[0].s[:14] + "\x00\x01" + "x", // a beat with data
	} {
		all = append(all, checked(s))
	}
	for _, x := range right {
		s := checked(x.s)
		all = append(all, x.s, s+"\x00", "\x00"+s, checked(s), s+s)
		for k := 1; k < 25 && k <= len(s); k++ {
			all = append(all, s[:len(s)-k], s[k:], checked(x.s[:max(len(x.s)-k, 0)]))
		}
		n := crc32.ChecksumIEEE([]byte(x.s))
		all = append(all, string(binary.BigEndian.AppendUint32([]byte(x.s), n)), string(binary.LittleEndian.AppendUint32([]byte(x.s), ^n)), string(binary.LittleEndian.AppendUint32([]byte(x.s), n+1)))
	}
	return all
}

// 24.1, and example 1.
func TestCrc(t *testing.T) {
	for s, want := range map[string]int{
		"":                 0,
		"123456789":        3421780262,
		"\x00":             3523407757,
		"a":                3904355907,
		"abc":              891568578,
		"\xff\xff\xff\xff": 1<<32 - 1,
	} {
		if n := channel.Crc(s); n != want {
			t.Errorf("%q: %d, want %d", s, n, want)
		}
	}
	for n := range 600 {
		if s := long(n); channel.Crc(s) != int(crc32.ChecksumIEEE([]byte(s))) {
			t.Errorf("%d bytes: %d", n, channel.Crc(s))
		}
	}
	if s := long(1 << 20); channel.Crc(s) != int(crc32.ChecksumIEEE([]byte(s))) {
		t.Error(channel.Crc(s))
	}
}

// 24.1
func TestCheck(t *testing.T) {
	for _, x := range right {
		if e := channel.Check(x.x); e != api.OK {
			t.Errorf("%+v: %d", x.x, e)
		}
	}
	for _, x := range wrong() {
		if e := channel.Check(x); e != api.ErrChan {
			t.Errorf("%+v: %d", x, e)
		}
	}
}

// 24.1
func TestEncode(t *testing.T) {
	for _, x := range right {
		if s, e := channel.Encode(x.x); s != checked(x.s) || e != api.OK {
			t.Errorf("%+v: %q, %d", x.x, s, e)
		}
	}
	for _, x := range wrong() {
		if s, e := channel.Encode(x); s != "" || e != api.ErrChan {
			t.Errorf("%+v: %q, %d", x, s, e)
		}
	}
}

// 24.1
func TestDecode(t *testing.T) {
	for _, x := range right {
		if y, e := channel.Decode(checked(x.s)); y != x.x || e != api.OK {
			t.Errorf("%q: %+v, %d, want %+v", x.s, y, e, x.x)
		}
	}
	for _, s := range noLetters() {
		if y, e := channel.Decode(s); y != (api.Letter{}) || e != api.ErrChan {
			t.Errorf("%q: %+v, %d", s, y, e)
		}
	}
}

// 24.1: a letter of which a bit is another one is none.
func TestDecodeTorn(t *testing.T) {
	for _, x := range right[:7] {
		s := checked(x.s)
		for i := range 8 * len(s) {
			b := []byte(s)
			b[i/8] ^= 1 << (i % 8)
			if y, e := channel.Decode(string(b)); y != (api.Letter{}) || e != api.ErrChan {
				t.Errorf("%q: %+v, %d", b, y, e)
			}
		}
	}
}
