package table_test

import (
	"slices"
	"testing"

	"sternpost/api"
	"sternpost/table"
)

// both is a table, and the slow one beside it: each call goes to both, and is looked at.
type both struct {
	side
	m    *slow
	came map[string]int
}

func bothOf(t *testing.T, s table.Setup, ip int, came map[string]int) *both {
	t.Helper()
	return &both{made(t, s, ip), &slow{set: s, ip: ip}, came}
}

// told looks at what a call told, and at all that can be asked behind it.
func (b *both) told(what string, ok bool, out, want []api.Out) []api.Out {
	b.t.Helper()
	if !ok {
		b.t.Fatalf("%s tells something else", what)
	}
	b.sent(what, out, want)
	b.same()
	return out
}

// same looks whether both tell the same of all connections that there are, or were.
func (b *both) same() {
	b.t.Helper()
	var numbers []int
	ends := map[api.Ends]int{}
	for _, r := range b.m.there() {
		numbers = append(numbers, r.number)
		ends[r.ends]++
		state, why := r.c.State()
		b.is(r.number, state, why)
		if x, ok := b.x.Ends(r.number); x != r.ends || !ok {
			b.t.Fatalf("Ends(%d): %+v, %v, want %+v", r.number, x, ok, r.ends)
		}
	}
	b.numbers(numbers...)
	if len(numbers) > b.m.set.Room || len(ends) != len(numbers) {
		b.t.Fatalf("%d connections between %d ends, room for %d", len(numbers), len(ends), b.m.set.Room)
	}
	at, ok := b.m.due()
	if x, some := b.x.Due(); x != at || some != ok {
		b.t.Fatalf("Due: %d, %v, want %d, %v", x, some, at, ok)
	}
}

func (b *both) counts(what string, e api.Code) {
	switch e {
	case api.OK:
		b.came[what]++
	default:
		b.came[what+" fails"]++
	}
}

func (b *both) listen(port int) {
	b.t.Helper()
	e := b.x.Listen(port)
	b.told("Listen", e == b.m.listen(port), nil, nil)
	b.counts("Listen", e)
}

func (b *both) silence(port int) {
	b.t.Helper()
	if len(b.m.some(port)) > 0 {
		b.came["Silence of some"]++
	}
	e := b.x.Silence(port)
	b.told("Silence", e == b.m.silence(port), nil, nil)
	b.counts("Silence", e)
}

func (b *both) connect(ip, port, now int) []api.Out {
	b.t.Helper()
	n, out, e := b.x.Connect(ip, port, now)
	m, want, wantE := b.m.connect(ip, port, now)
	b.counts("Connect", e)
	if e == api.ErrFull {
		b.came["Connect full"]++
	}
	return b.told("Connect", n == m && e == wantE, out, want)
}

func (b *both) take(from int, s api.Segment, now int) []api.Out {
	b.t.Helper()
	had := len(b.m.there())
	n, out := b.x.Take(from, s, now)
	m, want := b.m.take(from, s, now)
	switch {
	case n == 0 && len(out) == 0 && s.Flags == api.SYN:
		b.came["no room"]++
	case n == 0 && len(out) > 0:
		b.came["reset"]++
	case len(b.m.there()) > had:
		b.came["comes in"]++
	case len(b.m.there()) < had:
		b.came["gone by Take"]++
	}
	return b.told("Take", n == m, out, want)
}

func (b *both) tick(now int) []api.Out {
	b.t.Helper()
	had := len(b.m.there())
	out := b.told("Tick", true, b.x.Tick(now), b.m.tick(now))
	if len(b.m.there()) < had {
		b.came["gone by Tick"]++
	}
	return out
}

func (b *both) accept(port int) (int, bool) {
	b.t.Helper()
	some := b.m.some(port)
	n, ok := b.x.Accept(port)
	m, want := b.m.accept(port)
	b.told("Accept", n == m && ok == want, nil, nil)
	switch {
	case ok && n != some[0].number:
		b.came["Accept of a later one"]++
	case !ok && len(some) > 0:
		b.came["Accept of none that waits"]++
	}
	return n, ok
}

func (b *both) write(number int, data string, now int) (int, []api.Out) {
	b.t.Helper()
	n, out, e := b.x.Write(number, data, now)
	m, want, wantE := b.m.write(number, data, now)
	b.counts("Write", e)
	return n, b.told("Write", n == m && e == wantE, out, want)
}

func (b *both) read(number, most, now int) (string, []api.Out, api.Code) {
	b.t.Helper()
	data, out, e := b.x.Read(number, most, now)
	text, want, wantE := b.m.read(number, most, now)
	b.counts("Read", e)
	return data, b.told("Read", data == text && e == wantE, out, want), e
}

func (b *both) close(number, now int) []api.Out {
	b.t.Helper()
	out, e := b.x.Close(number, now)
	want, wantE := b.m.close(number, now)
	b.counts("Close", e)
	return b.told("Close", e == wantE, out, want)
}

func (b *both) abort(number int) []api.Out {
	b.t.Helper()
	out, e := b.x.Abort(number)
	want, wantE := b.m.abort(number)
	b.counts("Abort", e)
	return b.told("Abort", e == wantE, out, want)
}

func (b *both) drop(number int) {
	b.t.Helper()
	had := len(b.m.there())
	e := b.x.Drop(number)
	b.told("Drop", e == b.m.drop(number), nil, nil)
	b.counts("Drop", e)
	if e == api.OK && len(b.m.there()) == had {
		b.came["goes on unheld"]++
	}
}

// whole looks whether each number that was ever given, and none else, has what the slow one says.
func (b *both) whole() {
	b.t.Helper()
	for n := range len(b.m.all) + 3 {
		if r := b.m.entry(n); r == nil {
			b.without(n)
		}
	}
	if l := b.x.Numbers(); !slices.IsSorted(l) {
		b.t.Fatalf("Numbers: %v", l)
	}
}
