package series

import (
	"slices"

	"isobar/api"
)

// part is how many of the first comparisons, and of the first readings, a part of a series has.
type part struct {
	checks   int
	readings int
}

// looked is a suite with those parts of its series that were met, and whether they are possible.
type looked struct {
	api.SeriesSuite
	met map[part]bool
}

// look returns a suite of which no part was met.
func look(s api.SeriesSuite) looked {
	return looked{s, map[part]bool{}}
}

// agrees reports whether no comparison contradicts.
func (l looked) agrees() bool {
	return l.possible(len(l.Checks), 0)
}

// possible reports whether the series is possible with the first comparisons alone, and the readings of the first years alone. A year that is not read makes no other part.
func (l looked) possible(checks, years int) bool {
	s := l.only(checks, years)
	at := part{checks, readings(s.Years)}
	can, known := l.met[at]
	if !known {
		_, e := attempt(func() *sought { return seek(s) })
		can = e == api.OK
		l.met[at] = can
	}
	return can
}

// only returns the suite with the first comparisons alone, in which only the first years are read.
func (l looked) only(checks, years int) api.SeriesSuite {
	s := l.SeriesSuite
	s.Checks = s.Checks[:checks]
	s.Years = slices.Clone(s.Years)
	for year := years; year < len(s.Years); year++ {
		s.Years[year].Read = false
	}
	return s
}

// readings returns how many years are read.
func readings(years []api.SeriesYear) int {
	read := 0
	for _, y := range years {
		if y.Read {
			read++
		}
	}
	return read
}

// moved returns the suite with the readings in the shelter of a year, before this year, as readings in the other shelter.
func moved(s api.SeriesSuite, year int) api.SeriesSuite {
	s.Years = slices.Clone(s.Years)
	shelter := s.Years[year].Shelter
	for before := range year {
		if s.Years[before].Shelter == shelter {
			s.Years[before].Shelter = other(s)
		}
	}
	return s
}
