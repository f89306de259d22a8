package glass

import "isobar/api"

// least returns the least of some numbers.
func least(first int, more ...int) int {
	for _, n := range more {
		if n < first {
			first = n
		}
	}
	return first
}

// greatest returns the greatest of some numbers.
func greatest(first int, more ...int) int {
	for _, n := range more {
		if n > first {
			first = n
		}
	}
	return first
}

// quotient returns a number divided by one that is greater than 0, rounded down (Go rounds quotients that are less than 0 up).
func quotient(n, by int) int {
	if n%by < 0 {
		return n/by - 1
	}
	return n / by
}

// end is one of both ends of a span.
type end int

const (
	lowEnd end = iota
	highEnd
)

// other returns the opposite end.
func (e end) other() end {
	return highEnd - e
}

// of returns the number at this end of a span.
func (e end) of(s api.Span) int {
	if e == lowEnd {
		return s.Low
	}
	return s.High
}

// ends returns what a closure makes of the low end, and what of the high one.
func ends[T any](at func(end) T) (T, T) {
	lowest := at(lowEnd)
	highest := at(highEnd)
	return lowest, highest
}
