package series

import (
	"iter"

	"isobar/api"
)

// The numbers of a truth are the corrections of the shelters, and then the values of the years. There is a place for one shelter more, which a move may need.
const (
	shelters = api.SeriesShelters + 1
	numbers  = shelters + api.SeriesYears
)

// value returns which number the value of a year is.
func value(year int) int {
	return shelters + year
}

// last returns the last shelter of a suite, the correction of which is 0.
func last(s api.SeriesSuite) int {
	return s.Shelters - 1
}

// other returns the shelter of a move, which is none of the suite's own.
func other(s api.SeriesSuite) int {
	return s.Shelters
}

// most returns how great a number of a truth can be at most; with its sign, it is how small it can be.
func most(s api.SeriesSuite, number int) int {
	switch {
	case number >= shelters:
		return api.SeriesMost
	case number == last(s):
		return 0
	}
	return api.SeriesShift
}

// tie says between which bounds a number of a truth, less another one, lies.
type tie struct {
	number int
	less   int
	differ api.Span
}

// ties yields what ties the numbers of a suite's truths to each other: comparisons, readings, and changes from year to year.
func ties(s api.SeriesSuite) iter.Seq[tie] {
	return func(yield func(tie) bool) {
		for _, c := range s.Checks {
			if !yield(tie{c.A, c.B, c.Differ}) {
				return
			}
		}
		for year, y := range s.Years {
			if y.Read && !yield(tie{value(year), y.Shelter, y.Reading}) {
				return
			}
			if year > 0 && !yield(tie{value(year), value(year - 1), api.Span{Low: -s.Change, High: s.Change}}) {
				return
			}
		}
	}
}

// fits reports whether something that has the numbers of a truth is one.
func fits(s api.SeriesSuite, t api.SeriesTruth) bool {
	var told [numbers]int
	copy(told[:shelters], t.Shifts)
	copy(told[shelters:], t.Values)
	for number, n := range told {
		if !between(n, -most(s, number), most(s, number)) {
			return false
		}
	}
	for tied := range ties(s) {
		if !between(told[tied.number]-told[tied.less], tied.differ.Low, tied.differ.High) {
			return false
		}
	}
	return true
}
