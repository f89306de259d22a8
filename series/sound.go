package series

import "isobar/api"

// between reports whether a number lies from low to high.
func between(n, low, high int) bool {
	return low <= n && n <= high
}

// soundSpan reports whether a span lies from a greatest number with its sign to that number.
func soundSpan(s api.Span, most int) bool {
	return -most <= s.Low && s.Low <= s.High && s.High <= most
}

// soundShelter reports whether a suite has a shelter.
func soundShelter(s api.SeriesSuite, shelter int) bool {
	return between(shelter, 0, s.Shelters-1)
}

// soundYear reports whether a suite has a year.
func soundYear(s api.SeriesSuite, year int) bool {
	return between(year, 0, len(s.Years)-1)
}

// soundReading reports whether the reading of a year is as defined.
func soundReading(y api.SeriesYear) bool {
	if !y.Read {
		return y.Reading == api.Span{}
	}
	return soundSpan(y.Reading, api.SeriesMost)
}

// soundSuite reports whether a suite is as defined.
func soundSuite(s api.SeriesSuite) bool {
	if !between(s.First, 0, api.SeriesFirst) ||
		!between(s.Shelters, 1, api.SeriesShelters) ||
		!between(s.Change, 0, api.SeriesChange) ||
		!between(len(s.Years), 1, api.SeriesYears) ||
		len(s.Checks) > api.SeriesChecks {
		return false
	}
	for _, y := range s.Years {
		if !soundShelter(s, y.Shelter) || !soundReading(y) {
			return false
		}
	}
	for _, c := range s.Checks {
		if !soundShelter(s, c.A) || !soundShelter(s, c.B) || c.A == c.B || !soundSpan(c.Differ, 2*api.SeriesShift) {
			return false
		}
	}
	return true
}

// soundTruth reports whether something has a number for each shelter and one for each year of a suite.
func soundTruth(s api.SeriesSuite, t api.SeriesTruth) bool {
	return len(t.Shifts) == s.Shelters && len(t.Values) == len(s.Years)
}
