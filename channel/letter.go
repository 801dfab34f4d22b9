package channel

import (
	"strings"

	"sternpost/api"
	"sternpost/sum"
)

const (
	mostData   = 4096
	headBytes  = 16 // of all numbers ahead of a letter's data
	checkBytes = 4
	polynomial = 3988292384
)

// widths are how many bytes these numbers have, in their order: Kind, Epoch, Role, Number, Ack, and how long the data is.
var widths = [...]int{1, 4, 1, 4, 4, 2}

// Crc is the check of bytes.
func Crc(s string) int {
	x := api.MaxSeq
	for i := range len(s) {
		x ^= int(s[i])
		for range 8 {
			odd := x%2 == 1
			x /= 2
			if odd {
				x ^= polynomial
			}
		}
	}
	return x ^ api.MaxSeq
}

// Check tells whether a letter may be.
func Check(x api.Letter) api.Code {
	if !isWord(x.Epoch) || !isRole(x.Role) || !isWord(x.Number) || !isWord(x.Ack) {
		return api.ErrChan
	}
	switch {
	case x.Kind == api.LData && x.Number > 0 && len(x.Data) <= mostData:
	case x.Kind == api.LBeat && x.Data == "":
	default:
		return api.ErrChan
	}
	return api.OK
}

// Encode is a letter's bytes.
func Encode(x api.Letter) (string, api.Code) {
	if Check(x) != api.OK {
		return "", api.ErrChan
	}
	return encode(x), api.OK
}

// Decode is the letter that has these bytes.
func Decode(s string) (api.Letter, api.Code) {
	long := len(s) - headBytes - checkBytes
	if long < 0 {
		return api.Letter{}, api.ErrChan
	}
	body, check := s[:headBytes+long], s[headBytes+long:]
	x, told := read(body)
	if told != long || Check(x) != api.OK || check != checkOf(body) {
		return api.Letter{}, api.ErrChan
	}
	return x, api.OK
}

// encode leans on a letter that may be: its numbers have room.
func encode(x api.Letter) string {
	var all strings.Builder
	for i, n := range [...]int{x.Kind, x.Epoch, x.Role, x.Number, x.Ack, len(x.Data)} {
		s, _ := sum.Put(n, widths[i])
		all.WriteString(s)
	}
	all.WriteString(x.Data)
	all.WriteString(checkOf(all.String()))
	return all.String()
}

// read is what a letter's bytes ahead of its check say, and how long they say that the data is.
func read(s string) (x api.Letter, long int) {
	var n [len(widths)]int
	at := 0
	for i, w := range widths {
		n[i], _ = sum.Get(s, at, w)
		at += w
	}
	return api.Letter{Kind: n[0], Epoch: n[1], Role: n[2], Number: n[3], Ack: n[4], Data: s[at:]}, n[5]
}

// checkOf is the check as bytes, which are the only ones here whose lowest one is the first.
func checkOf(s string) string {
	n := Crc(s)
	return string([]byte{byte(n), byte(n >> 8), byte(n >> 16), byte(n >> 24)})
}

func isWord(n int) bool { return n >= 0 && n <= api.MaxSeq }

func isRole(n int) bool { return n >= api.Down && n <= api.Fenced }
