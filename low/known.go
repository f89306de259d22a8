package low

import (
	"slices"

	"isobar/api"
)

// census is a suite with the number of its truths, and of those with each link; truths that differ only in where lows are, and how deep, count once.
type census struct {
	api.LowSuite
	truths int
	with   map[link]int
}

// count returns the census of a suite.
func count(s api.LowSuite) census {
	c := census{LowSuite: s, with: map[link]int{}}
	for l := range truths(s) {
		c.truths++
		for k := range l.links() {
			c.with[k]++
		}
	}
	return c
}

// word returns what is known of a link.
func (c census) word(k link) api.LowWord {
	switch c.with[k] {
	case 0:
		return api.LowNever
	case c.truths:
		return api.LowSurely
	}
	return api.LowMay
}

// same returns what is known of whether lows of a map and of the one before are the same.
func (c census) same(at int) [][]api.LowWord {
	var words [][]api.LowWord
	for low := range c.Maps[at].Spots {
		var row []api.LowWord
		for before := range c.Maps[at-1].Spots {
			row = append(row, c.word(link{at, low, before}))
		}
		words = append(words, row)
	}
	return words
}

// births returns what is known of whether lows are born.
func (c census) births() [][]api.LowWord {
	var words [][]api.LowWord
	for before := range len(c.Maps) - 1 {
		var row []api.LowWord
		for low := range c.Maps[before+1].Spots {
			row = append(row, c.word(link{before + 1, low, none}))
		}
		words = append(words, row)
	}
	return words
}

// ends returns what is known of whether lows end.
func (c census) ends() [][]api.LowWord {
	var words [][]api.LowWord
	for at := range len(c.Maps) - 1 {
		var row []api.LowWord
		for low := range c.Maps[at].Spots {
			row = append(row, c.word(link{at + 1, none, low}))
		}
		words = append(words, row)
	}
	return words
}

// paths returns all paths of a low of a map, in order.
func paths(s api.LowSuite, at, low int) [][]int {
	var found [][]int
	for l := range truths(s) {
		path := l.path(at, low)
		if i, named := slices.BinarySearchFunc(found, path, slices.Compare); !named {
			found = slices.Insert(found, i, path)
		}
	}
	return found
}

// fewest returns how many lows are born at least on maps that are possible, and the first links with which no more are.
func fewest(s api.LowSuite) (int, [][]int) {
	born, _ := first(s.Born+1, func(born int) bool {
		s.Born = born
		return possible(s)
	})
	s.Born = born
	same, _ := firstLinks(s)
	return born, same
}
