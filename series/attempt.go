package series

import "isobar/api"

// impossible is what the search of the bounds of a series that is not possible gives up with.
type impossible struct{}

// unreadable is what the reader of a text that is no book gives up with.
type unreadable struct{}

// attempt returns what some work makes: ErrRule if it gives up as a series is not possible, ErrText if it does as a text is no book.
func attempt[T any](work func() T) (made T, e api.Errno) {
	defer func() {
		switch recover().(type) {
		case impossible:
			e = api.ErrRule
		case unreadable:
			e = api.ErrText
		}
	}()
	return work(), api.OK
}

// first returns the place of the first of some things for which something holds; ErrNone if it holds for none.
func first[T any](things []T, holds func(at int) bool) (int, api.Errno) {
	for at := range things {
		if holds(at) {
			return at, api.OK
		}
	}
	return 0, api.ErrNone
}
