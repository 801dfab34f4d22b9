package parse

import (
	"errors"

	"sternpost/api"
)

// Code is the number in an error.
func Code(e error) api.Code {
	if e == nil {
		return api.OK
	}
	c, ok := first(e, func(api.Code) bool { return true })
	if !ok {
		return api.ErrOther
	}
	return c
}

// Where is the layer and the place that the outermost Fail in an error tells.
func Where(e error) (layer string, at int, ok bool) {
	f, ok := outermost(e)
	if !ok {
		return "", 0, false
	}
	return f.Layer, f.At, true
}

// Is tells whether c is the error's number. That alone is asked, and not e: e may have others further in, which are not its number, and may have none, for which ErrOther stands.
func Is(e error, c api.Code) bool { return e != nil && errors.Is(Code(e), c) }

// Shift is the error as it is told where what was read begins by bytes further on.
func Shift(e error, by int) error {
	f, ok := outermost(e)
	if !ok {
		return e
	}
	return &api.Fail{Layer: f.Layer, At: f.At + by, Err: f.Err}
}

// outermost is the first Fail in e. A pointer to no Fail is none, and may stand ahead of one.
func outermost(e error) (*api.Fail, bool) {
	return first(e, func(f *api.Fail) bool { return f != nil })
}

// first is the first T in e that fits, in the order of errors.As.
func first[T error](e error, fits func(T) bool) (found T, ok bool) {
	for x := range inside(e) {
		if t, is := own[T](x); is && fits(t) {
			return t, true
		}
	}
	return found, false
}

// own is the T that e is itself, or tells by its As. errors.As is asked only where e is one: else it goes in to what e wraps, and has no end where that goes round.
func own[T error](e error) (found T, ok bool) {
	defer func() { _ = recover() }() // an error of others that panics tells nothing
	switch x := e.(type) {
	case T:
		var t T
		ok = errors.As(x, &t)
		return t, ok
	case interface{ As(any) bool }:
		var t T
		ok = x.As(&t)
		return t, ok
	}
	return found, false
}
