package frag_test

import (
	"slices"
	"testing"

	"sternpost/api"
	"sternpost/frag"
	"sternpost/ip"
)

// puzzle is a packet that is being put together, byte by byte.
type puzzle struct {
	like   api.Packet // a packet with the fields by which pieces belong together
	at     int
	pieces []api.Packet // as they came
	bytes  map[int]byte
	end    int // -1: not told
}

// slow is a box as the words say it: puzzles in the order in which they began.
type slow struct {
	room, patience, now int
	puzzles             []*puzzle
}

func (m *slow) move(now int) bool {
	if now < m.now || now > api.MaxTick {
		return false
	}
	m.now = now
	return true
}

func (m *slow) find(p api.Packet) *puzzle {
	for _, x := range m.puzzles {
		if x.like.From == p.From && x.like.To == p.To && x.like.Proto == p.Proto && x.like.Ident == p.Ident {
			return x
		}
	}
	return nil
}

func (m *slow) drop(x *puzzle) {
	m.puzzles = slices.DeleteFunc(m.puzzles, func(y *puzzle) bool { return x == y })
}

func (m *slow) take(p api.Packet, now int) (api.Packet, bool, api.Code) {
	if !m.move(now) {
		return api.Packet{}, false, api.ErrRange
	}
	if p.Frag == 0 && !p.More {
		return p, true, api.OK
	}
	x := m.find(p)
	if x == nil {
		if len(m.puzzles) == m.room {
			return api.Packet{}, false, api.ErrFull
		}
		x = &puzzle{like: p, at: now, bytes: map[int]byte{}, end: -1}
		m.puzzles = append(m.puzzles, x)
	}
	if x.there(p) {
		return api.Packet{}, false, api.OK
	}
	if x.wrong(p) {
		m.drop(x)
		return api.Packet{}, false, api.ErrFrag
	}
	x.lay(p)
	if data, ok := x.all(); ok {
		m.drop(x)
		whole, _ := x.first()
		whole.More, whole.Data = false, data
		return whole, true, api.OK
	}
	return api.Packet{}, false, api.OK
}

func (m *slow) tick(now int) (late []api.Packet, e api.Code) {
	if !m.move(now) {
		return nil, api.ErrRange
	}
	for _, x := range slices.Clone(m.puzzles) {
		if now-x.at < m.patience {
			continue
		}
		m.drop(x)
		if p, ok := x.first(); ok {
			late = append(late, p)
		}
	}
	return late, api.OK
}

func (x *puzzle) there(p api.Packet) bool {
	for _, q := range x.pieces {
		if q.Frag == p.Frag && q.Data == p.Data && q.More == p.More {
			return true
		}
	}
	return false
}

func (x *puzzle) wrong(p api.Packet) bool {
	at := p.Frag * 8
	end := at + len(p.Data)
	for i := at; i < end; i++ {
		if _, there := x.bytes[i]; there || x.end >= 0 && i >= x.end {
			return true
		}
	}
	if !p.More && x.end >= 0 && end != x.end {
		return true
	}
	for i := range x.bytes {
		if !p.More && i >= end {
			return true
		}
	}
	return end+20+len(p.Options) > 65535 || len(x.pieces) == 64
}

func (x *puzzle) lay(p api.Packet) {
	x.pieces = append(x.pieces, p)
	for i := range len(p.Data) {
		x.bytes[p.Frag*8+i] = p.Data[i]
	}
	if !p.More {
		x.end = p.Frag*8 + len(p.Data)
	}
}

// all is the data, if none of it is missing.
func (x *puzzle) all() (string, bool) {
	var data []byte
	for i := range max(x.end, 0) {
		c, there := x.bytes[i]
		if !there {
			return "", false
		}
		data = append(data, c)
	}
	return string(data), x.end >= 0
}

// first is the first piece that came of those at 0.
func (x *puzzle) first() (api.Packet, bool) {
	for _, p := range x.pieces {
		if p.Frag == 0 {
			return p, true
		}
	}
	return api.Packet{}, false
}

// dice are numbers that look thrown, but are the same each time.
type dice uint64

func (d *dice) below(n int) int {
	*d = *d*6364136223846793005 + 1442695040888963407
	return int(uint64(*d)>>33) % n
}

// thrown is a piece that mostly fits to others of its packet, which is one of a few. wide is how many places there are.
func (d *dice) thrown(wide int) api.Packet {
	from := 8 * d.below(wide)
	p := piece(d.below(3), from, from+8, true)
	switch n := d.below(40); {
	case n < 6: // the end that most of them tell
		p = piece(p.Ident, 8*wide, 8*wide+p.Ident, false)
	case n < 8:
		p = piece(p.Ident, from, from+d.below(17), false)
	case n < 9:
		p = piece(p.Ident, from, from+16, true)
	case n < 10:
		p.Data = text(from+1, 8)
	case n < 11:
		p.From, p.To = p.To, p.From
	}
	if d.below(4) == 0 {
		p = marked(p, d.below(256), text(0, 4*d.below(11)), d.below(2) == 0)
	}
	return p
}

// when is the next tick, or, now and then, one that is refused.
func (d *dice) when(now int) int {
	if d.below(30) == 0 {
		return now - 1
	}
	return now + d.below(8)/7
}

// 12.1 to 12.3: many calls of all kinds, at boxes of many kinds.
func TestManyCalls(t *testing.T) {
	came := map[api.Code]int{}
	wholes, lates := 0, 0
	for seed := range 400 {
		d := dice(seed)
		wide := 1 + d.below(6)
		if seed%8 == 0 {
			wide = 60 + d.below(8)
		}
		m := &slow{room: 1 + d.below(4), patience: 1 + d.below(10*wide)}
		b := made(t, m.room, m.patience)
		for range 500 {
			now := d.when(m.now)
			if d.below(10) == 0 {
				late, e := b.Tick(now)
				want, wantE := m.tick(now)
				if !slices.Equal(late, want) || e != wantE {
					t.Fatalf("seed %d, Tick %d: %v, %d, want %v, %d", seed, now, late, e, want, wantE)
				}
				lates += len(late)
				continue
			}
			p := d.thrown(wide)
			whole, ok, e := b.Take(p, now)
			want, wantOk, wantE := m.take(p, now)
			if whole != want || ok != wantOk || e != wantE {
				t.Fatalf("seed %d, Take %v, tick %d: %v, %v, %d, want %v, %v, %d", seed, p, now, whole, ok, e, want, wantOk, wantE)
			}
			if b.Len() != len(m.puzzles) {
				t.Fatalf("seed %d, Len: %d, want %d", seed, b.Len(), len(m.puzzles))
			}
			came[e]++
			if ok && !ip.Whole(p) {
				wholes++
			}
		}
	}
	if wholes < 1000 || lates < 1000 || came[api.ErrFrag] < 1000 || came[api.ErrFull] < 1000 || came[api.ErrRange] < 1000 {
		t.Errorf("too few of a kind: %d whole, %d late, %v", wholes, lates, came)
	}
}

// cut is a packet's pieces, some of them cut once more.
func (d *dice) cut(t *testing.T, p api.Packet) []api.Packet {
	t.Helper()
	head := 20 + len(p.Options)
	least := head + max(8, len(p.Data)/20)
	pieces, e := ip.Pieces(p, least+d.below(len(p.Data)))
	var all []api.Packet
	for _, q := range pieces {
		again := []api.Packet{q}
		if d.below(4) == 0 && e == api.OK {
			again, e = ip.Pieces(q, head+max(8, len(q.Data)/2))
		}
		all = append(all, again...)
	}
	if e != api.OK || len(all) > 64 {
		t.Fatalf("%d pieces of %v: %d", len(all), short(p), e)
	}
	return all
}

func shuffle[T any](d *dice, list []T) {
	for i := range list {
		j := i + d.below(len(list)-i)
		list[i], list[j] = list[j], list[i]
	}
}

// 12.4: of pieces in any order, some of them twice, comes what was cut, as soon as the last one is there; of several packets at once, too.
func TestPutTogether(t *testing.T) {
	for seed := range 500 {
		d := dice(seed)
		b := made(t, 4, 10)
		wants := map[int]api.Packet{}
		missing := map[int]map[api.Packet]int{}
		var road []api.Packet
		for ident := range 1 + d.below(4) {
			p := marked(packet(ident, 30+d.below(4000)), d.below(256), text(0, 4*d.below(11)), false)
			wants[ident], missing[ident] = p, map[api.Packet]int{}
			for _, q := range d.cut(t, p) {
				missing[ident][q]++
				for range 1 + d.below(3)/2 {
					road = append(road, q)
				}
			}
		}
		shuffle(&d, road)
		comes(t, b, road, wants, missing)
		has(t, b, 0)
		if t.Failed() {
			t.Fatalf("seed %d", seed)
		}
	}
}

// comes looks whether each packet comes with the last piece of it that is missing, and with none ahead of that.
func comes(t *testing.T, b *frag.Box, road []api.Packet, wants map[int]api.Packet, missing map[int]map[api.Packet]int) {
	t.Helper()
	for _, p := range road {
		want, open := wants[p.Ident]
		if !open && !ip.Whole(p) {
			continue // it came whole: one more of its pieces would begin it anew
		}
		delete(missing[p.Ident], p)
		if len(missing[p.Ident]) > 0 {
			keeps(t, b, 0, p)
			continue
		}
		if open {
			gives(t, b, 0, p, want)
		}
		delete(wants, p.Ident)
	}
	if len(wants) > 0 {
		t.Errorf("%d packets did not come", len(wants))
	}
}

// 12.4: every order of a few pieces.
func TestAllOrders(t *testing.T) {
	want := marked(packet(1, 37), 3, "abcd", false)
	pieces, e := ip.Pieces(want, 32)
	if e != api.OK || len(pieces) != 5 {
		t.Fatal(pieces, e)
	}
	orders(pieces, 0, func(order []api.Packet) {
		b := made(t, 1, 1)
		for i, p := range order[:4] {
			keeps(t, b, 0, p)
			keeps(t, b, 0, order[:i+1]...)
		}
		gives(t, b, 0, order[4], want)
		has(t, b, 0)
	})
}

// orders calls see with each order of a list behind its first n.
func orders(list []api.Packet, n int, see func([]api.Packet)) {
	if n == len(list) {
		see(list)
		return
	}
	for i := n; i < len(list); i++ {
		list[n], list[i] = list[i], list[n]
		orders(list, n+1, see)
		list[n], list[i] = list[i], list[n]
	}
}
