package parse

import (
	"errors"
	"iter"
	"slices"

	"sternpost/api"
)

// Code is the number in an error.
func Code(e error) api.Code {
	if e == nil {
		return api.OK
	}
	c := api.ErrOther
	quietly(func() { c = number(e) })
	return c
}

// Where is the layer and the place that the outermost Fail in an error tells.
func Where(e error) (layer string, at int, ok bool) {
	f := outermost(e)
	if f == nil {
		return "", 0, false
	}
	return f.Layer, f.At, true
}

// Is tells whether c is the error's number. That alone is asked, and not e: e may have others further in, which are not its number, and may have none, for which ErrOther stands.
func Is(e error, c api.Code) bool { return e != nil && errors.Is(Code(e), c) }

// Shift is the error as it is told where what was read begins by bytes further on.
func Shift(e error, by int) error {
	f := outermost(e)
	if f == nil {
		return e
	}
	return &api.Fail{Layer: f.Layer, At: f.At + by, Err: f.Err}
}

// number is the first number in e. Only what wraps nothing is asked, so that errors.As goes no way that inside did not go.
func number(e error) api.Code {
	for x := range inside(e) {
		var c api.Code
		if len(wrapped(x)) == 0 && errors.As(x, &c) {
			return c
		}
	}
	return api.ErrOther
}

// outermost is the first Fail in e, or nil.
func outermost(e error) *api.Fail {
	var f *api.Fail
	quietly(func() {
		if !errors.As(e, &f) {
			return
		}
		// A pointer to no Fail is found, too, and may stand ahead of a Fail.
		for x := range inside(e) {
			if f != nil {
				return
			}
			errors.As(x, &f)
		}
	})
	return f
}

// inside goes over e and all that it wraps in the order of errors.As, but to nothing twice, as a Fail may wrap itself, and to no pointer to no Fail, which can't be asked what it wraps.
func inside(e error) iter.Seq[error] {
	return func(yield func(error) bool) {
		var none *api.Fail
		seen := map[error]struct{}{none: {}}
		for left := []error{e}; len(left) > 0; {
			x := left[len(left)-1]
			left = left[:len(left)-1]
			if met(seen, x) {
				continue
			}
			if !yield(x) {
				return
			}
			for _, in := range slices.Backward(wrapped(x)) {
				left = append(left, in)
			}
		}
	}
}

// wrapped is what e wraps, one step in: one error, or several that were joined.
func wrapped(e error) []error {
	if in := errors.Unwrap(e); in != nil {
		return []error{in}
	}
	var joined interface{ Unwrap() []error }
	if errors.As(e, &joined) {
		return joined.Unwrap()
	}
	return nil
}

// met tells whether e is in seen, and puts it there. An error that can't be compared is never met: asking for it panics.
func met(seen map[error]struct{}, e error) (there bool) {
	quietly(func() {
		_, there = seen[e]
		seen[e] = struct{}{}
	})
	return there
}

// quietly lets no panic out, as errors of others have methods of their own.
func quietly(ask func()) {
	defer func() { _ = recover() }()
	ask()
}
