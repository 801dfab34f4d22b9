package parse_test

import (
	"errors"
	"testing"
	"time"

	"sternpost/api"
	"sternpost/parse"
)

// link is an error of another kind, around whatever it is told to be, itself too.
type link struct{ in error }

func (*link) Error() string   { return "link" }
func (l *link) Unwrap() error { return l.in }

// shell is one that is no pointer: to compare two of them is to compare all that is in them.
type shell struct{ in error }

func (shell) Error() string   { return "shell" }
func (s shell) Unwrap() error { return s.in }

// both is two errors, laid in a new list each time that it is asked.
type both struct{ a, b error }

func (both) Error() string     { return "both" }
func (b both) Unwrap() []error { return []error{b.a, b.b} }

// hidden can't be compared, and wraps what lies elsewhere, itself too.
type hidden struct {
	marks []int
	in    *error
}

func (hidden) Error() string   { return "hidden" }
func (h hidden) Unwrap() error { return *h.in }

// teller tells by a method of its own what it is, and wraps another error as well.
type teller struct {
	f  *api.Fail
	c  api.Code
	in error
}

func (*teller) Error() string   { return "teller" }
func (t *teller) Unwrap() error { return t.in }
func (t *teller) As(target any) bool {
	switch x := target.(type) {
	case **api.Fail:
		*x = t.f
		return t.f != nil
	case *api.Code:
		*x = t.c
		return t.c != api.OK
	}
	return false
}

// ring are as many links, the last one of which wraps the first one.
func ring(links int) *link {
	last := &link{}
	first := last
	for range links - 1 {
		first = &link{first}
	}
	last.in = first
	return first
}

// within is e with as many links around it.
func within(links int, e error) error {
	for range links {
		e = &link{e}
	}
	return e
}

// twice is e, joined with itself over and over: the ways in are too many to go them all.
func twice(e error) error {
	for range 64 {
		e = errors.Join(e, e)
	}
	return e
}

// listed is twice, by lists that can't be compared.
func listed(e error) error {
	for range 64 {
		e = many{e, e}
	}
	return e
}

// selfish is a list with itself in all of its places but the last one.
func selfish(last error) error {
	m := make(many, 1000)
	for i := range m {
		m[i] = m
	}
	m[len(m)-1] = last
	return m
}

// mixed goes round by lists, joined errors, Fails and links alike; the Fail is where it is met first.
func mixed(last error) (error, *api.Fail) {
	m := make(many, 2)
	f := fail("ip", 3, &link{errors.Join(m, shell{m})})
	m[0], m[1] = shell{f}, last
	return m, f
}

// ends fails the test if the call has no end in time.
func ends(t *testing.T, what string, call func()) {
	t.Helper()
	done := make(chan struct{})
	go func() {
		defer close(done)
		call()
	}()
	select {
	case <-done:
	case <-time.After(time.Minute):
		t.Fatalf("%s has no end", what)
	}
}

// answers looks whether all four calls end, with what there is to tell.
func answers(t *testing.T, x asked) {
	t.Helper()
	want, same := api.Fail{}, x.f == nil
	if !same {
		want = *x.f
	}
	ends(t, "Code of "+x.name, func() {
		if c := parse.Code(x.e); c != x.c {
			t.Errorf("%v: Code %v, want %v", x.name, int(c), int(x.c))
		}
	})
	ends(t, "Is of "+x.name, func() {
		if !parse.Is(x.e, x.c) || parse.Is(x.e, x.c+1) {
			t.Errorf("%v: Is", x.name)
		}
	})
	ends(t, "Where of "+x.name, func() {
		if layer, at, ok := parse.Where(x.e); layer != want.Layer || at != want.At || ok == same {
			t.Errorf("%v: Where %v, %v, %v", x.name, layer, at, ok)
		}
	})
	ends(t, "Shift of "+x.name, func() {
		e := parse.Shift(x.e, 3)
		f, ok := e.(*api.Fail)
		if same && !unchanged(x.e, e) || !same && (!ok || f == x.f || f.Layer != want.Layer || f.At != want.At+3 || !sameWrapped(f, &want)) {
			t.Errorf("%v: Shift %T", x.name, e)
		}
	})
}

// TestRound asks of P1 that errors of others that go round have an end, and of 9.3 that what is in them is found.
func TestRound(t *testing.T) {
	other := errors.New("other")
	plain := fail("tcp", 34, api.ErrSeg)
	mix, mixFail := mixed(api.ErrIP)
	front := fail("arp", 5, ring(2))
	back := ring(3)
	back.in.(*link).in = errors.Join(back, plain)
	for _, x := range []asked{
		{"one that wraps itself", ring(1), api.ErrOther, nil},
		{"two that wrap one another", ring(2), api.ErrOther, nil},
		{"many that go round", ring(5000), api.ErrOther, nil},
		{"a way to one that goes round", within(5000, ring(7)), api.ErrOther, nil},
		{"one that goes round in joined ones", errors.Join(other, ring(1), other), api.ErrOther, nil},
		{"a number behind one that goes round", errors.Join(ring(2), api.ErrIP), api.ErrIP, nil},
		{"a Fail behind one that goes round", errors.Join(ring(2), plain), api.ErrSeg, plain},
		{"a Fail of one that goes round", front, api.ErrOther, front},
		{"a Fail in what goes round", back, api.ErrSeg, plain},
		{"a list of itself", selfish(nil), api.ErrOther, nil},
		{"a list of itself and a number", selfish(api.ErrIP), api.ErrIP, nil},
		{"a list of itself and a Fail", selfish(plain), api.ErrSeg, plain},
		{"all kinds that go round", mix, api.ErrIP, mixFail},
	} {
		answers(t, x)
	}
}

// hasNone looks whether Where ends, and finds nothing; it is asked alone where to go all ways takes a while.
func hasNone(t *testing.T, name string, e error) {
	t.Helper()
	ends(t, "Where of "+name, func() {
		if layer, at, ok := parse.Where(e); layer != "" || at != 0 || ok {
			t.Error(name, layer, at, ok)
		}
	})
}

// TestNotCompared asks of P1 for what goes round, and can't be held against what was there before, or is too far in for that.
func TestNotCompared(t *testing.T) {
	var e error
	e = hidden{in: &e}
	hasNone(t, "one that can't be compared", e)
	ends(t, "Code of it", func() {
		if c := parse.Code(e); c != api.ErrOther {
			t.Error(int(c))
		}
	})
	hasNone(t, "one that goes round far in", within(1<<22, ring(2)))
	plain := fail("tcp", 34, api.ErrSeg)
	in := error(plain)
	answers(t, asked{"one that does not go round", hidden{in: &in}, api.ErrSeg, plain})
}

// TestTwice asks of P1 for joined errors of which the ways in are too many to go them all, and of 9.3 for what is in them, and behind.
func TestTwice(t *testing.T) {
	other := errors.New("other")
	low := fail("ip", 1, other)
	plain := fail("tcp", 34, api.ErrSeg)
	for _, x := range []asked{
		{"joined ones", twice(other), api.ErrOther, nil},
		{"joined Fails", twice(low), api.ErrOther, low},
		{"a Fail behind joined ones", errors.Join(twice(other), plain), api.ErrSeg, plain},
		{"a number behind joined Fails", errors.Join(twice(low), api.ErrOpts), api.ErrOpts, low},
		{"lists", listed(other), api.ErrOther, nil},
		{"a Fail behind lists", many{listed(other), plain}, api.ErrSeg, plain},
		{"a Fail in lists", listed(plain), api.ErrSeg, plain},
	} {
		answers(t, x)
	}
	var e error = other
	for range 64 {
		e = both{e, e}
	}
	hasNone(t, "two that are new each time", e)
}

// TestDeep asks of 9.3, and of P1, for what lies far in.
func TestDeep(t *testing.T) {
	high := deep(1 << 21)
	if _, at, ok := parse.Where(high); parse.Code(high) != api.ErrSum || at != 1<<21-1 || !ok {
		t.Error(at, ok)
	}
	plain := fail("tcp", 34, api.ErrSeg)
	var shells error = plain
	for range 500000 {
		shells = shell{shells}
	}
	var lists error = plain
	for range 100000 {
		lists = many{nil, lists}
	}
	wide := make(many, 1<<21)
	wide[len(wide)-1] = plain
	for _, x := range []asked{
		{"links", within(1<<21, plain), api.ErrSeg, plain},
		{"shells", shells, api.ErrSeg, plain},
		{"lists", lists, api.ErrSeg, plain},
		{"a wide list", wide, api.ErrSeg, plain},
	} {
		answers(t, x)
	}
}

// TestAs asks of 9.3 that an error's own As is asked, as errors.As does: of those that wrap others, too, and ahead of these.
func TestAs(t *testing.T) {
	plain, nested := fail("tcp", 34, api.ErrSeg), fail("ip", 14, api.ErrIP)
	round := &teller{}
	round.in = round
	late := &teller{in: &teller{f: nested, c: api.ErrArp}}
	for _, x := range []asked{
		{"one that tells", &teller{f: nested, c: api.ErrArp, in: plain}, api.ErrArp, nested},
		{"one that tells no Fail", &teller{c: api.ErrArp, in: plain}, api.ErrArp, plain},
		{"one that tells no number", &teller{f: nested, in: plain}, api.ErrSeg, nested},
		{"one that tells nothing", &teller{in: plain}, api.ErrSeg, plain},
		{"one that tells, further in", errors.Join(&link{late}, plain), api.ErrArp, nested},
		{"one that tells nothing, and goes round", round, api.ErrOther, nil},
	} {
		answers(t, x)
		var f *api.Fail
		var c api.Code
		if x.f != nil && (!errors.As(x.e, &f) || f != x.f || !errors.As(x.e, &c) || c != x.c) {
			t.Errorf("%v: errors.As tells otherwise", x.name)
		}
	}
}
