package kite

import (
	"slices"

	"isobar/api"
)

// end takes an end of a span.
type end func(api.Span) int

// lowEnd takes the least number of a span.
func lowEnd(s api.Span) int { return s.Low }

// highEnd takes the greatest number of a span.
func highEnd(s api.Span) int { return s.High }

// ends returns both ends of what rises with some spans and sinks with others: the least one is made of the least numbers of those with which it rises, and of the greatest ones of the others.
func ends[T any](height func(raises, lowers end) T) (T, T) {
	return height(lowEnd, highEnd), height(highEnd, lowEnd)
}

// hull returns the least span in which some numbers lie. There must be one at least.
func hull(numbers ...int) api.Span {
	return api.Span{Low: slices.Min(numbers), High: slices.Max(numbers)}
}
