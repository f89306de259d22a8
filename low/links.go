package low

import (
	"iter"
	"slices"

	"isobar/api"
)

// none is the number of a low that there is not.
const none = -1

// linked is a suite with links: for each low of each map, which low of the map before is the same one, or none.
type linked struct {
	api.LowSuite
	same [][]int
}

// link is that a low of a map is the same one as a low of the map before. If this one is none, the other is born; if the low is none, the one of the map before ends.
type link struct {
	at     int
	low    int
	before int
}

// links yields all links, births and ends.
func (l linked) links() iter.Seq[link] {
	return func(yield func(link) bool) {
		for at := 1; at < len(l.Maps); at++ {
			for low, before := range l.same[at] {
				if !yield(link{at, low, before}) {
					return
				}
			}
			for before := range l.Maps[at-1].Spots {
				if !slices.Contains(l.same[at], before) && !yield(link{at, none, before}) {
					return
				}
			}
		}
	}
}

// allowed reports whether no more lows are born, and no more end, than can.
func (l linked) allowed() bool {
	born, gone := 0, 0
	for k := range l.links() {
		if k.before == none {
			born++
		}
		if k.low == none {
			gone++
		}
	}
	return born <= l.Born && gone <= l.Gone
}

// onward yields the numbers of a low of a map, on this map and on those after it.
func (l linked) onward(at, low int) iter.Seq2[int, int] {
	return func(yield func(int, int) bool) {
		number := low
		for next := at; yield(next, number) && next+1 < len(l.Maps); next++ {
			number = slices.Index(l.same[next+1], number)
			if number == none {
				return
			}
		}
	}
}

// path returns the path of a low of a map.
func (l linked) path(at, low int) []int {
	var numbers []int
	for _, number := range l.onward(at, low) {
		numbers = append(numbers, number)
	}
	return numbers
}

// chain yields the numbers of a low of a map, on all maps.
func (l linked) chain(at, low int) iter.Seq2[int, int] {
	for l.same[at][low] != none {
		low = l.same[at][low]
		at--
	}
	return l.onward(at, low)
}

// twice reports whether two lows of a map are the same one as one of the map before.
func twice(row []int) bool {
	found := false
search:
	for i, before := range row {
		for _, other := range row[:i] {
			if before != none && before == other {
				found = true
				break search
			}
		}
	}
	return found
}

// rows yields all links that a map of some lows can have to a map of some lows before it, in lexicographic order.
func rows(lows, before int) iter.Seq[[]int] {
	return func(yield func([]int) bool) {
		var extend func(row []int) bool
		extend = func(row []int) bool {
			if len(row) == lows {
				// The next row is written over this one.
				return yield(slices.Clone(row))
			}
			for next := none; next < before; next++ {
				longer := append(row, next)
				if !twice(longer) && !extend(longer) {
					return false
				}
			}
			return true
		}
		extend(nil)
	}
}

// upTo returns the suite of a map and of those before it.
func upTo(s api.LowSuite, at int) api.LowSuite {
	s.Maps = s.Maps[:at+1]
	return s
}

// following yields all links that the next map can have, after maps that are linked.
func following(s api.LowSuite, same [][]int) iter.Seq[[]int] {
	at := len(same)
	before := 0
	if at > 0 {
		before = len(s.Maps[at-1].Spots)
	}
	return rows(len(s.Maps[at].Spots), before)
}

// truths yields the suite with the links of each truth, in lexicographic order; truths that differ only in where lows are, and how deep, are yielded once. Chains that a map does not make longer were looked at before it.
func truths(s api.LowSuite) iter.Seq[linked] {
	return func(yield func(linked) bool) {
		var follow func(same [][]int) bool
		follow = func(same [][]int) bool {
			if len(same) == len(s.Maps) {
				return yield(linked{s, same})
			}
			for row := range following(s, same) {
				longer := slices.Concat(same, [][]int{row})
				l := linked{upTo(s, len(same)), longer}
				if l.allowed() && l.unbroken(len(same)) && !follow(longer) {
					return false
				}
			}
			return true
		}
		follow(nil)
	}
}

// firstLinks returns the first links that there are in truths, and whether there are any.
func firstLinks(s api.LowSuite) ([][]int, bool) {
	for l := range truths(s) {
		return l.same, true
	}
	return nil, false
}

// possible reports whether the maps are possible.
func possible(s api.LowSuite) bool {
	_, found := firstLinks(s)
	return found
}
