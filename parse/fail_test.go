package parse_test

import (
	"errors"
	"fmt"
	"math"
	"testing"

	"sternpost/api"
	"sternpost/parse"
)

// odd is an error that can't be compared, around another one.
type odd struct {
	marks []int
	in    error
}

func (odd) Error() string   { return "odd" }
func (o odd) Unwrap() error { return o.in }

// many is a list of errors that is one itself.
type many []error

func (many) Error() string     { return "many" }
func (m many) Unwrap() []error { return m }

// loud can't be asked anything.
type loud struct{}

func (loud) Error() string { panic("loud") }
func (loud) Unwrap() error { panic("loud") }
func (loud) Is(error) bool { panic("loud") }
func (loud) As(any) bool   { panic("loud") }

// fail is a Fail at a place.
func fail(layer string, at int, in error) *api.Fail { return &api.Fail{Layer: layer, At: at, Err: in} }

// deep is a number with as many Fails around it.
func deep(fails int) error {
	var e error = api.ErrSum
	for i := range fails {
		e = fail("ip", i, e)
	}
	return e
}

// round are Fails that wrap themselves, by the errors that they have between.
func round(between func(error) error) error {
	a, b := fail("ether", 1, nil), fail("arp", 2, nil)
	a.Err, b.Err = between(b), between(a)
	return a
}

// asked is an error, and what there is to tell of it; of none: no Fail.
type asked struct {
	name string
	e    error
	c    api.Code
	f    *api.Fail
}

func allAsked() []asked {
	other := errors.New("other")
	var none *api.Fail
	plain := fail("tcp", 34, api.ErrSeg)
	empty := fail("", 0, nil)
	nested := fail("ip", 3, fail("tcp", 34, api.ErrSum))
	around := fail("icmp", 5, other)
	self := fail("arp", 7, nil)
	self.Err = self
	back := fail("arp", 8, nil)
	back.Err = errors.Join(fail("ip", 1, other), back, api.ErrFrag)
	same := fail("ip", 9, other)
	ring := round(func(e error) error { return e }).(*api.Fail)
	oddRing := round(func(e error) error { return odd{in: e} }).(*api.Fail)
	joinRing := round(func(e error) error { return errors.Join(nil, e) }).(*api.Fail)
	overNone := fail("tcp", 4, none)
	overLoud := fail("tcp", 6, loud{})
	high := deep(1000).(*api.Fail)
	return []asked{
		{"a number", api.ErrIP, api.ErrIP, nil},
		{"the number of nothing wrong", api.OK, api.OK, nil},
		{"a number that is nobody's", api.Code(-7), -7, nil},
		{"a Fail", plain, api.ErrSeg, plain},
		{"a Fail of nothing", empty, api.ErrOther, empty},
		{"a Fail of nothing wrong", fail("ip", 1, api.OK), api.OK, fail("ip", 1, api.OK)},
		{"two Fails", nested, api.ErrSum, nested},
		{"many Fails", high, api.ErrSum, high},
		{"another error", other, api.ErrOther, nil},
		{"a Fail of another error", around, api.ErrOther, around},
		{"another error around a number", fmt.Errorf(": %w", api.ErrIcmp), api.ErrIcmp, nil},
		{"another error around a Fail", fmt.Errorf(": %w", plain), api.ErrSeg, plain},
		{"one that can't be compared", odd{in: odd{in: nested}}, api.ErrSum, nested},
		{"one that can't be compared, of nothing", odd{}, api.ErrOther, nil},
		{"several numbers", errors.Join(other, api.ErrArp, api.ErrIP), api.ErrArp, nil},
		{"a number ahead of a Fail", errors.Join(api.ErrArp, plain), api.ErrArp, plain},
		{"a Fail ahead of another one", errors.Join(fmt.Errorf(": %w", plain), nested), api.ErrSeg, plain},
		{"a number behind a Fail without one", errors.Join(around, api.ErrOpts), api.ErrOpts, around},
		{"a number far in, and one behind", errors.Join(errors.Join(nested, api.ErrIP), api.ErrArp), api.ErrSum, nested},
		{"several by one format", fmt.Errorf("%w %w", other, nested), api.ErrSum, nested},
		{"the same twice", errors.Join(same, same, api.ErrEnd), api.ErrEnd, same},
		{"a list with nothing in it", many{nil, nil}, api.ErrOther, nil},
		{"a list without an element", many{}, api.ErrOther, nil},
		{"a list", many{nil, other, nested}, api.ErrSum, nested},
		{"a pointer to no Fail", none, api.ErrOther, nil},
		{"a Fail of such a pointer", overNone, api.ErrOther, overNone},
		{"such a pointer in another error", odd{in: none}, api.ErrOther, nil},
		{"such a pointer ahead of a number", errors.Join(none, api.ErrIP), api.ErrIP, nil},
		{"such a pointer ahead of a Fail", errors.Join(none, other, odd{in: nested}), api.ErrSum, nested},
		{"a Fail that wraps itself", self, api.ErrOther, self},
		{"a Fail that wraps itself and a number", back, api.ErrFrag, back},
		{"two Fails that wrap each other", ring, api.ErrOther, ring},
		{"the same with others between", oddRing, api.ErrOther, oddRing},
		{"the same with joined ones between", joinRing, api.ErrOther, joinRing},
		{"one that panics", loud{}, api.ErrOther, nil},
		{"a Fail of one that panics", overLoud, api.ErrOther, overLoud},
		{"one that panics ahead of a number", errors.Join(loud{}, api.ErrIP), api.ErrIP, nil},
		{"one that panics ahead of a Fail", errors.Join(loud{}, odd{in: loud{}}, nested), api.ErrSum, nested},
	}
}

// TestCode asks of 9.3 for Code and Is.
func TestCode(t *testing.T) {
	if c := parse.Code(nil); c != api.OK {
		t.Errorf("nil: %v", int(c))
	}
	for _, c := range []api.Code{api.OK, api.ErrOther, api.ErrRange, -1} {
		if parse.Is(nil, c) {
			t.Errorf("nil is %v", int(c))
		}
	}
	for _, x := range allAsked() {
		if c := parse.Code(x.e); c != x.c {
			t.Errorf("%v: %v, want %v", x.name, int(c), int(x.c))
		}
		for _, c := range []api.Code{x.c - 1, x.c, x.c + 1, api.OK, api.ErrRange, api.ErrSum, api.ErrOther, -7, 1 << 40} {
			if is := parse.Is(x.e, c); is != (c == x.c) {
				t.Errorf("%v is %v: %v", x.name, int(c), is)
			}
		}
	}
}

// TestWhere asks of 9.3 for Where.
func TestWhere(t *testing.T) {
	if layer, at, ok := parse.Where(nil); layer != "" || at != 0 || ok {
		t.Error(layer, at, ok)
	}
	for _, x := range allAsked() {
		want := api.Fail{}
		if x.f != nil {
			want = *x.f
		}
		layer, at, ok := parse.Where(x.e)
		if layer != want.Layer || at != want.At || ok != (x.f != nil) {
			t.Errorf("%v: %v, %v, %v", x.name, layer, at, ok)
		}
	}
}

// unchanged tells whether both are the same error; those that can't be compared are told by their texts.
func unchanged(a, b error) bool {
	switch a.(type) {
	case odd, many:
		return a.Error() == b.Error()
	}
	return a == b
}

// TestShift asks of 9.3 for Shift, and of R4 that what it is given stays as it is.
func TestShift(t *testing.T) {
	for _, by := range []int{0, 1, 14, -14, 1 << 40, math.MaxInt, math.MinInt} {
		if e := parse.Shift(nil, by); e != nil {
			t.Error(e)
		}
		for _, x := range allAsked() {
			was := api.Fail{}
			if x.f != nil {
				was = *x.f
			}
			e := parse.Shift(x.e, by)
			if x.f == nil {
				if !unchanged(x.e, e) {
					t.Errorf("%v: %v, want the same", x.name, e)
				}
				continue
			}
			f, ok := e.(*api.Fail)
			if !ok || f == x.f || f.Layer != was.Layer || f.At != was.At+by || !sameWrapped(f, &was) {
				t.Errorf("%v by %v: %v", x.name, by, f)
			}
			if x.f.Layer != was.Layer || x.f.At != was.At || !sameWrapped(x.f, &was) {
				t.Errorf("%v: was changed", x.name)
			}
		}
	}
}

// sameWrapped tells whether two Fails wrap the same.
func sameWrapped(a, b *api.Fail) bool {
	return a.Err == nil && b.Err == nil || a.Err != nil && b.Err != nil && unchanged(a.Err, b.Err)
}

// TestShifted asks of 9.3 that what is shifted can be asked again.
func TestShifted(t *testing.T) {
	_, e := parse.Inner(api.Packet{TTL: -1})
	for i := range 5 {
		layer, at, ok := parse.Where(e)
		if layer != "ip" || at != 5*i || !ok || parse.Code(e) != api.ErrIP || !errors.Is(e, api.ErrIP) {
			t.Error(i, layer, at, ok, e)
		}
		e = parse.Shift(e, 5)
	}
}
