package arp_test

import (
	"math"
	"strings"
	"testing"

	"sternpost/api"
	"sternpost/arp"
)

const (
	group = 1 << 40   // the bit of a hardware address that makes it one of a group
	topIP = 1<<32 - 1 // the highest address of IPv4
	ahead = "\x00\x01\x08\x00\x06\x04"
)

// farNumbers are no addresses of either kind, and no operations.
var farNumbers = []int{-1, -2, 1 << 48, 1<<48 + 1, -1 << 48, math.MinInt, math.MinInt + 1, math.MaxInt, math.MaxInt - 1}

// farIPs are no addresses of IPv4.
var farIPs = append([]int{topIP + 1, topIP + 2, api.Everyone, -topIP}, farNumbers...)

// noSenders are no hardware addresses that may send.
var noSenders = append([]int{group, group + 7, 3 << 40, 2*group - 1, api.Everyone}, farNumbers...)

// right are packets that may be, with each field at its edges.
func right() []api.Arp {
	as := []api.Arp{
		{Op: api.ArpAsk},
		{Op: api.ArpTell},
		{Op: api.ArpAsk, FromMac: 2, FromIP: 10, ToIP: 11},
		{Op: api.ArpTell, FromMac: 3, FromIP: 11, ToMac: 2, ToIP: 10},
		{Op: api.ArpAsk, FromMac: 0x0a0b0c0d0e0f, FromIP: 0x11121314, ToMac: 0x212223242526, ToIP: 0x31323334},
		{Op: api.ArpTell, FromMac: api.Everyone - group, FromIP: topIP, ToMac: api.Everyone, ToIP: topIP},
		{Op: api.ArpAsk, FromMac: 1, FromIP: topIP - 1, ToMac: api.Everyone - 1, ToIP: topIP - 1},
		{Op: api.ArpAsk, FromMac: group - 1, FromIP: 10, ToMac: group, ToIP: 10},
	}
	for bit := range 48 {
		if bit != 40 {
			as = append(as, api.Arp{Op: api.ArpAsk, FromMac: 1 << bit})
		}
		as = append(as, api.Arp{Op: api.ArpTell, ToMac: 1 << bit})
	}
	for bit := range 32 {
		as = append(as, api.Arp{Op: api.ArpTell, FromIP: 1 << bit}, api.Arp{Op: api.ArpAsk, ToIP: 1 << bit})
	}
	return as
}

// wrong are packets that may not be, each for one reason.
func wrong() []api.Arp {
	as := []api.Arp{
		{},
		{Op: 3, FromMac: 2, FromIP: 10, ToIP: 11},
		{Op: 256, FromMac: 2, FromIP: 10, ToIP: 11},
		{Op: 1<<16 + api.ArpAsk, FromMac: 2, FromIP: 10, ToIP: 11},
	}
	for _, op := range []int{api.ArpAsk, api.ArpTell} {
		for _, n := range noSenders {
			as = append(as, api.Arp{Op: op, FromMac: n, FromIP: 10, ToIP: 10})
		}
		for _, n := range farNumbers {
			as = append(as, api.Arp{Op: n, FromMac: 2}, api.Arp{Op: op, FromMac: 2, FromIP: 10, ToMac: n, ToIP: 10})
		}
		for _, n := range farIPs {
			as = append(as,
				api.Arp{Op: op, FromMac: 2, FromIP: n, ToIP: 10},
				api.Arp{Op: op, FromMac: 2, FromIP: 10, ToIP: n},
				api.Arp{Op: op, FromMac: 2, FromIP: n, ToIP: n})
		}
	}
	return as
}

// slow is a packet's bytes as the words say them, each by itself.
func slow(a api.Arp) string {
	var b []byte
	for _, field := range []struct{ n, wide int }{
		{1, 2}, {api.TypeIP, 2}, {6, 1}, {4, 1},
		{a.Op, 2}, {a.FromMac, 6}, {a.FromIP, 4}, {a.ToMac, 6}, {a.ToIP, 4},
	} {
		for i := field.wide - 1; i >= 0; i-- {
			b = append(b, byte(field.n>>(8*i)))
		}
	}
	return string(b)
}

// refused fails the test unless what was answered is nothing, beside ErrArp.
func refused(t *testing.T, a api.Arp, e api.Code, what ...any) {
	t.Helper()
	if a != (api.Arp{}) || e != api.ErrArp {
		t.Errorf("%v: %v, %d", what, a, e)
	}
}

// 4.1: Check.
func TestCheck(t *testing.T) {
	for _, a := range right() {
		if e := arp.Check(a); e != api.OK {
			t.Errorf("%v: %d", a, e)
		}
	}
	for _, a := range wrong() {
		if e := arp.Check(a); e != api.ErrArp {
			t.Errorf("%v: %d", a, e)
		}
	}
}

// 4.1: Encode.
func TestEncode(t *testing.T) {
	for _, c := range []struct {
		a    api.Arp
		want string
	}{
		{api.Arp{Op: 1}, ahead + "\x00\x01" + strings.Repeat("\x00", 20)},
		{api.Arp{Op: 1, FromMac: 2, FromIP: 10, ToIP: 11}, ahead + "\x00\x01\x00\x00\x00\x00\x00\x02\x00\x00\x00\x0a\x00\x00\x00\x00\x00\x00\x00\x00\x00\x0b"},
		{api.Arp{Op: 2, FromMac: 0x0a0b0c0d0e0f, FromIP: 0x11121314, ToMac: 0x212223242526, ToIP: 0x31323334},
			ahead + "\x00\x02\x0a\x0b\x0c\x0d\x0e\x0f\x11\x12\x13\x14\x21\x22\x23\x24\x25\x26\x31\x32\x33\x34"},
		{api.Arp{Op: 2, FromMac: api.Everyone - group, FromIP: topIP, ToMac: api.Everyone, ToIP: topIP},
			ahead + "\x00\x02\xfe" + strings.Repeat("\xff", 19)},
	} {
		if s, e := arp.Encode(c.a); s != c.want || e != api.OK {
			t.Errorf("%v: %q, %d", c.a, s, e)
		}
	}
	for _, a := range right() {
		if s, e := arp.Encode(a); s != slow(a) || len(s) != 28 || e != api.OK {
			t.Errorf("%v: %q, %d", a, s, e)
		}
	}
	for _, a := range wrong() {
		if s, e := arp.Encode(a); s != "" || e != api.ErrArp {
			t.Errorf("%v: %q, %d", a, s, e)
		}
	}
}

// 4.1: Decode, with as many bytes behind as may stand there, of any kind.
func TestDecode(t *testing.T) {
	for _, a := range right() {
		for n := range 19 {
			for _, fill := range []string{"\x00", "\xff", "x"} {
				s := slow(a) + strings.Repeat(fill, n)
				if b, e := arp.Decode(s); b != a || e != api.OK {
					t.Errorf("%q: %v, %d", s, b, e)
				}
			}
		}
	}
	if b, e := arp.Decode(slow(right()[4]) + slow(right()[5])[:18]); b != right()[4] || e != api.OK {
		t.Errorf("a packet ahead of a part of another one: %v, %d", b, e)
	}
}

// 4.1: Decode refuses what is too short or too long.
func TestDecodeLengths(t *testing.T) {
	s := slow(api.Arp{Op: 2, FromMac: 3, FromIP: 11, ToMac: 2, ToIP: 10})
	for n := range s {
		a, e := arp.Decode(s[:n])
		refused(t, a, e, "the first bytes", n)
		a, e = arp.Decode(s[n+1:])
		refused(t, a, e, "the last bytes", n)
		a, e = arp.Decode(s[n:] + s)
		refused(t, a, e, "bytes ahead", n)
	}
	for _, n := range []int{19, 20, 28, 1472, 1500, api.MaxBytes, 2 * api.MaxBytes} {
		a, e := arp.Decode(s + strings.Repeat("\x00", n))
		refused(t, a, e, "bytes behind", n)
	}
}

// 4.1: Decode refuses a packet's bytes of which one ahead of the addresses is another one.
func TestDecodeBytes(t *testing.T) {
	for _, behind := range []string{"", strings.Repeat("x", 18)} {
		for _, op := range []int{api.ArpAsk, api.ArpTell} {
			s := slow(api.Arp{Op: op, FromMac: 2, FromIP: 10, ToMac: 3, ToIP: 11}) + behind
			for at := range 8 {
				for n := range 256 {
					if byte(n) == s[at] || at == 7 && (n == 1 || n == 2) {
						continue
					}
					a, e := arp.Decode(s[:at] + string([]byte{byte(n)}) + s[at+1:])
					refused(t, a, e, "byte", at, n)
				}
			}
			for n := range 256 {
				a, e := arp.Decode(s[:8] + string([]byte{byte(n)}) + s[9:])
				if n%2 == 1 {
					refused(t, a, e, "from a group", n)
				} else if want := (api.Arp{Op: op, FromMac: n<<40 + 2, FromIP: 10, ToMac: 3, ToIP: 11}); a != want || e != api.OK {
					t.Errorf("from %d: %v, %d", n, a, e)
				}
			}
		}
	}
	for _, s := range []string{strings.Repeat("\x00", 28), strings.Repeat("\xff", 28), strings.Repeat("x", 46)} {
		a, e := arp.Decode(s)
		refused(t, a, e, s)
	}
}

// 4.2: Ask.
func TestAsk(t *testing.T) {
	for _, c := range [][3]int{{2, 10, 11}, {0, 0, 0}, {api.Everyone - group, topIP, topIP}, {group - 1, topIP, 0}, {2, 0, topIP}, {2, 10, 10}} {
		want := api.Arp{Op: api.ArpAsk, FromMac: c[0], FromIP: c[1], ToMac: 0, ToIP: c[2]}
		if a, e := arp.Ask(c[0], c[1], c[2]); a != want || e != api.OK {
			t.Errorf("%v: %v, %d", c, a, e)
		}
	}
	for _, n := range noSenders {
		a, e := arp.Ask(n, 10, 11)
		refused(t, a, e, "by", n)
	}
	for _, n := range farIPs {
		a, e := arp.Ask(2, n, 11)
		refused(t, a, e, "from", n)
		a, e = arp.Ask(2, 10, n)
		refused(t, a, e, "for", n)
	}
}

// 4.2: Tell answers every question, one with a ToMac and a claim among them.
func TestTell(t *testing.T) {
	for _, c := range []struct {
		a    api.Arp
		mac  int
		want api.Arp
	}{
		{api.Arp{Op: 1, FromMac: 2, FromIP: 10, ToIP: 11}, 3, api.Arp{Op: 2, FromMac: 3, FromIP: 11, ToMac: 2, ToIP: 10}},
		{api.Arp{Op: 1, FromMac: 2, FromIP: 10, ToMac: 9, ToIP: 11}, 3, api.Arp{Op: 2, FromMac: 3, FromIP: 11, ToMac: 2, ToIP: 10}},
		{api.Arp{Op: 1, FromMac: 2, FromIP: 10, ToMac: api.Everyone, ToIP: 10}, 2, api.Arp{Op: 2, FromMac: 2, FromIP: 10, ToMac: 2, ToIP: 10}},
		{api.Arp{Op: 1, FromMac: 2, FromIP: topIP, ToIP: 0}, 0, api.Arp{Op: 2, FromMac: 0, FromIP: 0, ToMac: 2, ToIP: topIP}},
		{api.Arp{Op: 1}, api.Everyone - group, api.Arp{Op: 2, FromMac: api.Everyone - group}},
	} {
		if b, e := arp.Tell(c.a, c.mac); b != c.want || e != api.OK {
			t.Errorf("%v, %d: %v, %d", c.a, c.mac, b, e)
		}
	}
}

// 4.2: Tell refuses what may not be, what does not ask, and an answer that may not be.
func TestTellWrong(t *testing.T) {
	for _, a := range wrong() {
		b, e := arp.Tell(a, 3)
		refused(t, b, e, a)
	}
	for _, a := range right() {
		if a.Op != api.ArpAsk {
			b, e := arp.Tell(a, 3)
			refused(t, b, e, a)
		}
		for _, n := range noSenders {
			b, e := arp.Tell(a, n)
			refused(t, b, e, a, n)
		}
	}
	// What comes out of it could be, but it may not be itself.
	b, e := arp.Tell(api.Arp{Op: 1, FromMac: 2, FromIP: 10, ToMac: 1 << 48, ToIP: 11}, 3)
	refused(t, b, e, "to no address")
	b, e = arp.Tell(api.Arp{Op: 1, FromMac: group, FromIP: 10, ToIP: 11}, 3)
	refused(t, b, e, "from a group")
}

// 4.2: Claim.
func TestClaim(t *testing.T) {
	for _, c := range [][2]int{{2, 10}, {0, 0}, {api.Everyone - group, topIP}, {group - 1, 1}} {
		want := api.Arp{Op: api.ArpAsk, FromMac: c[0], FromIP: c[1], ToMac: 0, ToIP: c[1]}
		if a, e := arp.Claim(c[0], c[1]); a != want || e != api.OK || !arp.IsClaim(a) {
			t.Errorf("%v: %v, %d", c, a, e)
		}
	}
	for _, n := range noSenders {
		a, e := arp.Claim(n, 10)
		refused(t, a, e, "by", n)
	}
	for _, n := range farIPs {
		a, e := arp.Claim(2, n)
		refused(t, a, e, "of", n)
	}
}

// 4.2: IsClaim: of both operations, whomever it goes to, but not of what may not be.
func TestIsClaim(t *testing.T) {
	for _, op := range []int{api.ArpAsk, api.ArpTell} {
		for _, mac := range []int{0, 5, group, api.Everyone} {
			for _, ip := range []int{0, 10, topIP} {
				if !arp.IsClaim(api.Arp{Op: op, FromMac: 2, FromIP: ip, ToMac: mac, ToIP: ip}) {
					t.Errorf("no claim: %d, %d, %d", op, mac, ip)
				}
				if arp.IsClaim(api.Arp{Op: op, FromMac: 2, FromIP: ip, ToMac: mac, ToIP: 11}) || arp.IsClaim(api.Arp{Op: op, FromMac: 2, FromIP: 11, ToMac: mac, ToIP: ip}) {
					t.Errorf("a claim: %d, %d, %d and 11", op, mac, ip)
				}
			}
		}
	}
	for _, a := range wrong() {
		if arp.IsClaim(a) {
			t.Errorf("a claim: %v", a)
		}
	}
}

// 4.3: there and back.
func TestThereAndBack(t *testing.T) {
	seen := map[string]api.Arp{}
	for _, a := range right() {
		s, e := arp.Encode(a)
		if e != api.OK {
			t.Fatalf("%v: %d", a, e)
		}
		if b, there := seen[s]; there && b != a {
			t.Errorf("%v and %v have the same bytes", a, b)
		}
		seen[s] = a
		if b, e := arp.Decode(s); b != a || e != api.OK {
			t.Errorf("%v came back as %v, %d", a, b, e)
		}
		b, _ := arp.Decode(s + strings.Repeat("x", 18))
		if again, e := arp.Encode(b); again != s || e != api.OK {
			t.Errorf("%q came back as %q, %d", s, again, e)
		}
	}
}

// 4.3: an answer goes back to who asked, from what was asked for, over the wire too.
func TestAnswerGoesBack(t *testing.T) {
	for _, mac := range []int{0, 2, group - 1, api.Everyone - group} {
		for _, ip := range []int{0, 10, topIP} {
			for _, want := range []int{0, 11, topIP} {
				asked, e := arp.Ask(mac, ip, want)
				if e != api.OK {
					t.Fatal(e)
				}
				s, _ := arp.Encode(asked)
				heard, _ := arp.Decode(s)
				told, e := arp.Tell(heard, 3)
				if e != api.OK || told.ToMac != mac || told.ToIP != ip || told.FromIP != want || told.FromMac != 3 || told.Op != api.ArpTell {
					t.Errorf("%v: %v, %d", asked, told, e)
				}
			}
		}
	}
}
