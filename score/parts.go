package score

import (
	"iter"
	"slices"

	"isobar/api"
)

// whole is the sum of all parts.
const whole = 100

// statement is parts, with a 0 for a class that there is not: it changes no points, and no order.
type statement [api.ScoreClasses]int

// gains are what is gained for each class, if it comes.
type gains [api.ScoreClasses]int

// stated returns parts as a statement.
func stated(parts []int) statement {
	var s statement
	copy(s[:], parts)
	return s
}

// parts returns the parts of a statement for some classes.
func (s statement) parts(classes int) []int {
	return slices.Clone(s[:classes])
}

// points returns the points of a statement for each class.
func points(s statement) gains {
	var squares, g gains
	for class, part := range s {
		squares[class] = part * part
	}
	lost := sum(squares[:]...)
	for class, part := range s {
		g[class] = 2*whole*part - lost
	}
	return g
}

// expect returns the sum, over all classes, of the belief's part times what is gained.
func (belief statement) expect(g gains) int {
	var products gains
	for class, part := range belief {
		products[class] = part * g[class]
	}
	return sum(products[:]...)
}

// statements yields the statements in a step for some classes, in lexicographic order.
func statements(classes, step int) iter.Seq[statement] {
	return func(yield func(statement) bool) {
		var extend func(s statement, class, left int) bool
		extend = func(s statement, class, left int) bool {
			if class == classes-1 {
				s[class] = left
				return yield(s)
			}
			for steps := range left/step + 1 {
				s[class] = steps * step
				if !extend(s, class+1, left-s[class]) {
					return false
				}
			}
			return true
		}
		extend(statement{}, 0, whole)
	}
}

// best returns the first of some things that are worth most, and what it is worth.
func best[T any](things iter.Seq[T], worth func(T) int) (T, int) {
	var found T
	most, some := 0, false
	for thing := range things {
		if n := worth(thing); !some || n > most {
			found, most, some = thing, n, true
		}
	}
	return found, most
}

// sum returns the sum of numbers.
func sum(numbers ...int) int {
	total := 0
	for _, n := range numbers {
		total += n
	}
	return total
}
