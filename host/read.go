package host

import (
	"sternpost/api"
	"sternpost/ether"
	"sternpost/ip"
	"sternpost/parse"
)

// strange is the kind of a whole packet of a protocol that is none of ours: api numbers the others from 1 on.
const strange = 0

// read is what a frame is, if nothing is wrong with it.
func read(s string) (api.Parsed, bool) {
	x, e := parse.Parse(s)
	if !isStrange(e) {
		return x, e == nil
	}
	// Parse tells nothing of it, but that nothing else is wrong: so neither is refused here.
	f, _ := ether.Decode(s)
	p, _ := ip.Decode(f.Data)
	return api.Parsed{Kind: strange, Frame: f, Packet: p}, true
}

// within is what a packet has within that was put together.
func within(p api.Packet) (api.Parsed, bool) {
	x, e := parse.Inner(p)
	if !isStrange(e) {
		return x, e == nil
	}
	return api.Parsed{Kind: strange, Packet: p}, true
}

// isStrange tells whether all that is wrong is a packet's protocol; a frame's type is the layer of frames.
func isStrange(e error) bool {
	layer, _, _ := parse.Where(e)
	return layer == "ip" && parse.Is(e, api.ErrOther)
}
