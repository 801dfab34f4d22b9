package parse

import (
	"iter"
	"slices"
)

const (
	short = 1 << 20 // a way of so many errors is gone without looking back
	most  = 1 << 26 // more errors than there is room for Fails within the document's bound
)

// walk is a way over an error and all that it wraps.
type walk struct {
	left  []error // where it still goes, the next one last
	gone  int
	been  map[any]struct{}
	marks int // how much was laid in been, or could not be
}

// place is where errors lie that were joined. A list of errors that is one itself can't be compared, but it lies at one place.
type place struct {
	first *error
	long  int
}

// inside goes over e and all that it wraps, in the order of errors.As, but with an end, though it may go round.
func inside(e error) iter.Seq[error] {
	return func(yield func(error) bool) {
		w := walk{been: map[any]struct{}{}}
		w.add(e)
		for len(w.left) > 0 && w.gone <= most {
			x := w.left[len(w.left)-1]
			w.left = w.left[:len(w.left)-1]
			if !yield(x) {
				return
			}
			w.enter(x)
		}
	}
}

func (w *walk) add(errs ...error) {
	w.gone += len(errs)
	for _, e := range slices.Backward(errs) {
		if e != nil {
			w.left = append(w.left, e)
		}
	}
}

func (w *walk) enter(e error) {
	one, joined := wrapped(e)
	if one != nil && !w.back(e, 1) {
		w.add(one)
	}
	if long := len(joined); long > 0 && !w.back(place{&joined[0], long}, long) {
		w.add(joined...)
	}
}

// back tells whether the way went by the mark before, and leaves it there. One that can't be compared panics, and is never found. To compare may take long, as errors may have others in them: so that is begun late, and given up where it did not help; then most is the end.
func (w *walk) back(mark any, weight int) (there bool) {
	if w.gone <= short || w.marks > short {
		return false
	}
	defer func() { _ = recover() }()
	w.marks += weight
	if _, there = w.been[mark]; there {
		w.marks -= weight
		return true
	}
	w.been[mark] = struct{}{}
	return false
}

// wrapped is what e wraps, one step in: one error, or several that were joined; nothing, if e panics.
func wrapped(e error) (one error, joined []error) {
	defer func() { _ = recover() }()
	switch x := e.(type) {
	case interface{ Unwrap() error }:
		one = x.Unwrap()
	case interface{ Unwrap() []error }:
		joined = x.Unwrap()
	}
	return one, joined
}
