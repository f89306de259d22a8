package low

import "isobar/api"

// between reports whether a number lies from low to high.
func between(n, low, high int) bool {
	return low <= n && n <= high
}

// soundSpan reports whether a span lies from 0 to a number.
func soundSpan(s api.Span, most int) bool {
	return 0 <= s.Low && s.Low <= s.High && s.High <= most
}

// soundMap reports whether a map is as defined, beside its place among others.
func soundMap(m api.LowMap) bool {
	if !between(m.At, 0, api.LowHours) || len(m.Spots) > api.LowSpots {
		return false
	}
	for _, spot := range m.Spots {
		if !soundSpan(spot.X, api.LowSide) || !soundSpan(spot.Y, api.LowSide) || !soundSpan(spot.Depth, api.LowDepth) {
			return false
		}
	}
	return true
}

// soundSuite reports whether a suite is as defined.
func soundSuite(s api.LowSuite) bool {
	if !between(len(s.Maps), 1, api.LowMaps) ||
		!between(s.Speed, 0, api.LowSpeed) || !between(s.Deepen, 0, api.LowDeepen) ||
		!between(s.Born, 0, api.LowCount) || !between(s.Gone, 0, api.LowCount) {
		return false
	}
	for at, m := range s.Maps {
		if !soundMap(m) || at > 0 && m.At <= s.Maps[at-1].At {
			return false
		}
	}
	return true
}

// soundLow reports whether a suite, of whatever maps, has a low of a map.
func soundLow(s api.LowSuite, at, low int) bool {
	return between(at, 0, len(s.Maps)-1) && between(low, 0, len(s.Maps[at].Spots)-1)
}

// soundLists reports whether there is just one list for each map, with one number for each of its lows.
func soundLists(s api.LowSuite, lists [][]int) bool {
	if len(lists) != len(s.Maps) {
		return false
	}
	for at, m := range s.Maps {
		if len(lists[at]) != len(m.Spots) {
			return false
		}
	}
	return true
}

// soundTruth reports whether something has the lists of a truth of a suite, and links to lows that there are.
func soundTruth(s api.LowSuite, t api.LowTruth) bool {
	for _, lists := range [4][][]int{t.Same, t.X, t.Y, t.Depth} {
		if !soundLists(s, lists) {
			return false
		}
	}
	for at, row := range t.Same {
		for _, before := range row {
			if before != none && !soundLow(s, at-1, before) {
				return false
			}
		}
	}
	return true
}
