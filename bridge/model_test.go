package bridge_test

import (
	"slices"
	"testing"

	"sternpost/api"
	"sternpost/bridge"
)

// saying is that an address was heard.
type saying struct{ address, port, now int }

// slow is a bridge as the words say it: a list of what was heard, from which what does not hold any more is taken.
type slow struct {
	ports, age, room int
	sayings          []saying
}

func (s *slow) drop(gone func(saying) bool) { s.sayings = slices.DeleteFunc(s.sayings, gone) }

func (s *slow) port(address int) (int, bool) {
	for _, x := range s.sayings {
		if x.address == address {
			return x.port, true
		}
	}
	return 0, false
}

func (s *slow) known() []int {
	var addresses []int
	for _, x := range s.sayings {
		addresses = append(addresses, x.address)
	}
	slices.Sort(addresses)
	return addresses
}

func (s *slow) take(port int, f api.Frame, now int) []int {
	s.drop(func(x saying) bool { return now-x.now >= s.age })
	if _, known := s.port(f.From); known || len(s.sayings) < s.room {
		s.drop(func(x saying) bool { return x.address == f.From })
		s.sayings = append(s.sayings, saying{f.From, port, now})
	}
	var ports []int
	to, known := s.port(f.To)
	for p := 0; p < s.ports; p++ {
		if p != port && (!known || p == to) {
			ports = append(ports, p)
		}
	}
	return ports
}

// dice are numbers that look thrown, but are the same each time.
type dice uint64

func (d *dice) below(n int) int {
	*d = *d*6364136223846793005 + 1442695040888963407
	return int(uint64(*d)>>33) % n
}

// addresses are few, so that they meet; two of them are of groups.
var addresses = []int{0, 1, 2, 3, 4, 5, 0xfe << 40, group, api.Everyone}

// 10.2, 10.3, 10.4: many frames, and ports that go down, at bridges of many kinds.
func TestManyFrames(t *testing.T) {
	for seed := range 200 {
		d := dice(seed)
		s := &slow{ports: 1 + d.below(5), age: 1 + d.below(12), room: 1 + d.below(6)}
		b := made(t, s.ports, s.age, s.room)
		now := 0
		for step := range 300 {
			now += d.below(4) / 2
			port := d.below(s.ports)
			if d.below(25) == 0 {
				if e := b.Down(port); e != api.OK {
					t.Fatal(e)
				}
				s.drop(func(x saying) bool { return x.port == port })
				continue
			}
			f := frame(addresses[d.below(len(addresses))], addresses[d.below(len(addresses)-2)])
			want := s.take(port, f, now)
			ports, e := b.Take(port, f, now)
			if e != api.OK || !slices.Equal(ports, want) || !slices.Equal(b.Known(now), s.known()) {
				t.Fatalf("seed %d, step %d: %v, %d, knows %v; want %v, %v", seed, step, ports, e, b.Known(now), want, s.known())
			}
			follows(t, b, port, f, now, ports)
		}
	}
}

// follows is 10.4 itself, of the frame that was just taken.
func follows(t *testing.T, b *bridge.Bridge, port int, f api.Frame, now int, ports []int) {
	t.Helper()
	if slices.Contains(ports, port) {
		t.Errorf("a frame went back to %d: %v", port, ports)
	}
	if p, known := b.Port(f.To, now); known && p != port && !slices.Equal(ports, []int{p}) {
		t.Errorf("to %d at %d it went to %v", f.To, p, ports)
	}
	if p, known := b.Port(f.From, now); known && p != port {
		t.Errorf("%d was heard at %d, and is at %d", f.From, port, p)
	}
}

// 10.4: to whom was heard at a port frames go there alone, until that is forgotten, or heard elsewhere.
func TestThereAlone(t *testing.T) {
	b := made(t, 4, 5, 4)
	goes(t, b, 3, frame(api.Everyone, 7), 0, 0, 1, 2)
	for now := range 5 {
		for port := range 3 {
			goes(t, b, port, frame(7, 8), now, 3)
		}
	}
	goes(t, b, 0, frame(7, 8), 5, 1, 2, 3)
	goes(t, b, 3, frame(8, 7), 5, 0)
	goes(t, b, 2, frame(8, 7), 6, 0)
	goes(t, b, 0, frame(7, 8), 6, 2)
	goes(t, b, 3, frame(7, 9), 6, 2)
}
