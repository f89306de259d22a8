package chart

import "iter"

// least returns the least of some numbers.
func least(first int, more ...int) int {
	for _, n := range more {
		if n < first {
			first = n
		}
	}
	return first
}

// greatest returns the greatest of some numbers.
func greatest(first int, more ...int) int {
	for _, n := range more {
		if n > first {
			first = n
		}
	}
	return first
}

// difference returns how far two numbers are apart.
func difference(a, b int) int {
	return greatest(a-b, b-a)
}

// first returns the first of some things for which something holds, and whether there is one.
func first[T any](things iter.Seq[T], holds func(T) bool) (T, bool) {
	for thing := range things {
		if holds(thing) {
			return thing, true
		}
	}
	var none T
	return none, false
}
