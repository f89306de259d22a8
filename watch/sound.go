package watch

import (
	"slices"

	"isobar/api"
)

// between reports whether a number lies from low to high.
func between(n, low, high int) bool {
	return low <= n && n <= high
}

// soundBase reports whether a base is as defined.
func soundBase(base int) bool {
	return between(base, 2, api.WatchBase)
}

// soundLists reports whether a base and a number of days are as defined.
func soundLists(base, days int) bool {
	return soundBase(base) && between(days, 0, api.WatchDays)
}

// soundLeast reports whether a least number is as defined; it can be greater than the days.
func soundLeast(least int) bool {
	return between(least, 0, api.WatchDays+1)
}

// soundOdds reports whether odds are as defined.
func soundOdds(odds int) bool {
	return between(odds, 1, api.WatchOdds)
}

// soundFigures reports whether each of some figures is one of a base, or none.
func soundFigures(figures []int, base int) bool {
	for _, figure := range figures {
		if !between(figure, none, base-1) {
			return false
		}
	}
	return true
}

// soundLog reports whether a log is as defined.
func soundLog(l api.WatchLog) bool {
	return soundBase(l.Base) && soundOdds(l.Odds) &&
		len(l.Own) <= api.WatchDays && len(l.Paper) == len(l.Own) &&
		soundFigures(l.Own, l.Base) && soundFigures(l.Paper, l.Base)
}

// soundRoad reports whether a span can be that of a road.
func soundRoad(s api.Span) bool {
	return 0 <= s.Low && s.Low <= s.High && s.High <= api.WatchRoad
}

// soundRound reports whether a round is as defined.
func soundRound(r api.WatchRound) bool {
	if !between(r.Start, 0, api.WatchDay) || !between(len(r.Stations), 1, api.WatchStations) {
		return false
	}
	for _, s := range r.Stations {
		if !between(s.Stay, 0, api.WatchStay) || !between(s.Due, 0, api.WatchDay) {
			return false
		}
	}
	places := len(r.Stations) + 1
	if len(r.Roads) != places {
		return false
	}
	for _, row := range r.Roads {
		if len(row) != places {
			return false
		}
		for _, road := range row {
			if !soundRoad(road) {
				return false
			}
		}
	}
	return true
}

// soundOrder reports whether something is a list of different stations of a round.
func soundOrder(r api.WatchRound, order []int) bool {
	for i, station := range order {
		if !between(station, 0, len(r.Stations)-1) || slices.Contains(order[:i], station) {
			return false
		}
	}
	return true
}

// soundLegs reports whether there is a leg for each station of an order, and each is a number of its road.
func soundLegs(r api.WatchRound, order, legs []int) bool {
	if len(legs) != len(order) {
		return false
	}
	for i, road := range roads(r, order) {
		if !between(legs[i], road.Low, road.High) {
			return false
		}
	}
	return true
}
