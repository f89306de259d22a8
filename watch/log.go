package watch

import (
	"iter"

	"isobar/api"
)

// none is the figure of a day on which there is none.
const none = -1

// shown is a log with what it shows: how many days count, on how many of them both figures are equal, and how often the observer has the same figure.
type shown struct {
	api.WatchLog
	days, agreements, favourite int
}

// show returns a log with what it shows.
func show(l api.WatchLog) shown {
	s := shown{WatchLog: l}
	var times [api.WatchBase]int
	for own, paper := range s.counting() {
		s.days++
		times[own]++
		if own == paper {
			s.agreements++
		}
	}
	for figure := range s.Base {
		s.favourite = max(s.favourite, times[figure])
	}
	return s
}

// counting yields both figures of each day that counts.
func (s shown) counting() iter.Seq2[int, int] {
	return func(yield func(own, paper int) bool) {
		for day, own := range s.Own {
			paper := s.Paper[day]
			if own != none && paper != none && !yield(own, paper) {
				return
			}
		}
	}
}

// copied returns how many lists agree with the paper's in as many places as the observer's, or in more.
func (s shown) copied() int {
	return listsOf(s.Base, s.days).agreeing(s.agreements)
}

// invented returns how many lists have some figure in as many places as the observer's, or in more.
func (s shown) invented() int {
	return listsOf(s.Base, s.days).favouring(s.favourite)
}

// verdict returns the verdict on the log.
func (s shown) verdict() api.WatchVerdict {
	convicts := [...]api.WatchVerdict{api.WatchCopied, api.WatchInvented}
	for test, chance := range [...]func() int{s.copied, s.invented} {
		if listsOf(s.Base, s.days).excludes(chance(), s.Odds) {
			return convicts[test]
		}
	}
	return api.WatchOpen
}
